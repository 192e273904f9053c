import Derived.Test.YtfipcjchjpihkaaGreatDoorOwn2
import Derived.Test.YtfipcjchjpihkaaGreatDoorMZ03
import Derived.Test.YtfipcjchjpihkaaGreatDoorMZ00
import Derived.Test.YtfipcjchjpihkaaGreatDoorPut64
import Derived.Great.BuildSlice
import Derived.Test.YtfipcjchjpihkaaGreatDoorRows
import Derived.Test.YtfipcjchjpihkaaGreatDoorMZ01
import Derived.Deep.WholeRow
/- 'append(out, make([]T, m)...)': the model's own form: an integer in the place of the second slice. Nothing of the program. -/
namespace Go.Proofs.YtfipcjchjpihkaaGreatDoor
open Go.RowKit
set_option linter.unusedVariables false
set_option linter.unusedSimpArgs false
theorem zeroCells_one (k : IntKind) (m : Nat) : Builtin.zeroCells (Value.int k 0).cells m = (List.replicate m (Value.int k 0)).toArray := by
  apply Array.ext'
  simp only [Builtin.zeroCells, Value.cells, List.size_toArray, List.length_cons, List.length_nil, Nat.zero_add, Nat.mul_one, Nat.mod_one, Array.toList_map, Array.toList_range]
  apply List.ext_getElem
  · simp
  · intro i h1 h2
    simp
theorem append_make_eq {P : Program} (w : World) (t ty e it : TypeId) (i : TypeInfo) (k : IntKind) (ht : P.underlying t = some (.slice e)) (hi : P.info? e = some i) (hz : i.zero = some (.int k 0)) (hs : i.size = 1) (hby : i.bytes ≤ 8)
    (hit : P.underlying it = some (.int .i64)) (base : Option Addr) (sLen sCap m c : Nat) (a : Addr) (hm : m ≤ 1000) (hsl : sLen ≤ 1000000000) (hfit : sCap < sLen + m → Builtin.nextslicecap (sLen + m) sCap * i.bytes ≤ 281474976710656)
    (hzero : ∀ j, j < m → w.cell? (a.add j) = some (.int k 0)) (hold : ∃ cs, (Builtin.firstCells 1 sLen (.slice base sLen sCap)).run P w.drew = .ok cs w.drew) :
    (Builtin.append_ #[t, it] ty #[.slice base sLen sCap, .int .i64 m]).run P w = (Builtin.append_ #[t, t] ty #[.slice base sLen sCap, .slice (some a) m c]).run P w := by
  have hnews : ∀ j v, (List.replicate m (Value.int k 0))[j]? = some v → w.cell? (a.add j) = some v := by
    intro j v hj
    have hj2 : j < m := by have := (List.getElem?_eq_some_iff.1 hj).1; simpa using this
    rw [hzero j hj2]
    simp [List.getElem?_replicate, hj2] at hj
    rw [hj]
  have hl : (List.replicate m (Value.int k 0)).length = m * i.size := by simp [hs]
  have hf0 := run_firstCells_some (P := P) w i.size m a m c (List.replicate m (Value.int k 0)) hl hnews
  have hf1 := run_firstCells_some (P := P) w.drew i.size m a m c (List.replicate m (Value.int k 0)) hl (by simpa using hnews)
  have hwr : IntKind.i64.wrap (m : Int) = m := by
    have h1 : (m : Int) % 18446744073709551616 = m := by omega
    simp [IntKind.wrap, IntKind.bits, IntKind.signed, h1]
    try omega
  have hneg : ¬ ((m : Int) < 0) := by omega
  have hb48 : ¬ (281474976710656 < (m : Int) * (i.bytes : Int)) := by
    have h1 : m * i.bytes ≤ 1000 * 8 := Nat.mul_le_mul hm hby
    have h2 : ((m * i.bytes : Nat) : Int) ≤ 8000 := by omega
    rw [Int.natCast_mul] at h2
    omega
  have hzc := zeroCells_one k m
  rw [hs] at hf0 hf1
  obtain ⟨cs, hcs⟩ := hold
  by_cases h0 : m = 0
  · subst h0
    have hl0 : ∀ w' : World, (Builtin.firstCells 1 0 (.slice (some a) 0 c)).run P w' = .ok #[] w' := fun w' => by simp [Builtin.firstCells, loadCells, loadCellsFrom]
    have hwr0 : IntKind.i64.wrap 0 = 0 := by decide
    by_cases hroom : sLen ≤ sCap
    · simp [Builtin.append_, run_underlying ht, run_underlying hit, sizeOf, typeInfo, zeroValue, hi, hz, Builtin.lenOf, hroom, hwr0, asInt, asIntOf, hs, hl0]
    · have h63' : ¬ (9223372036854775807 < (sLen : Int)) := by omega
      have h48' : ¬ (281474976710656 < Builtin.nextslicecap sLen sCap * i.bytes) := by have := hfit (by omega); simp only [Nat.add_zero] at this; omega
      simp [Builtin.append_, run_underlying ht, run_underlying hit, sizeOf, typeInfo, zeroValue, hi, hz, Builtin.lenOf, hroom, hwr0, asInt, asIntOf, hs, h63', h48', Question.forced, hl0, newRow, hcs]
  by_cases hroom : sLen + m ≤ sCap
  · simp [Builtin.append_, run_underlying ht, run_underlying hit, sizeOf, typeInfo, zeroValue, hi, hz, Builtin.lenOf, hroom, hwr, hneg, hb48, asInt, asIntOf, h0, hs, hf0, hzc]
  · have h63' : ¬ (9223372036854775807 < ((sLen : Int) + (m : Int))) := by omega
    have h48' : ¬ (281474976710656 < Builtin.nextslicecap (sLen + m) sCap * i.bytes) := by have := hfit (by omega); omega
    simp [Builtin.append_, run_underlying ht, run_underlying hit, sizeOf, typeInfo, zeroValue, hi, hz, Builtin.lenOf, hroom, hwr, hneg, hb48, asInt, asIntOf, h0, hs, h63', h48', Question.forced, hf1, hzc, newRow, hcs]
/-- 'out = append(out, make([]T, m)...)', where the memory holds m zeros somewhere. -/
theorem zeros_law {P : Program} {ops : Array Oper} {rest : List Oper} {o : Oper} {a : Act} {Q : Exit → Act → World → Prop} (k : IntKind) (t e it : TypeId) (bytes : Nat) (ht : P.underlying t = some (.slice e))
    (hinfo : (P.info? e).map (fun i => (i.zero, i.size, i.bytes)) = some (some (.int k 0), 1, bytes)) (hby : bytes ≤ 8) (hit : P.underlying it = some (.int .i64)) (hgd : o.guard = none) (s x : Operand) (ho : o.op = .call { callee := .builtin .append, args := #[s, x], argTypes := #[t, it] })
    (base : Nat) (w0 wr : World) (v : Value) (l : List Int) (b o' m : Nat) (hs : a.eval s = v) (hx : a.eval x = .int .i64 m) (hown : Own k e base wr v l) (hbel : Below base w0 wr) (hbase : base ≤ wr.heap.size) (hm : m ≤ 1000) (hlen : l.length ≤ 100000000)
    (hnews : ∀ j, j < m → wr.cell? ⟨b, o' + j, none⟩ = some (.int k 0))
    (h : ∀ v' w', Own k e base w' v' (l ++ List.replicate m 0) → Below base w0 w' → wr.grownBy w' v.ownBlock → (v'.ownBlock = v.ownBlock ∨ v'.ownBlock = some wr.heap.size) → wpList P ops Q rest (a.put o.dst v') w') : wpList P ops Q (o :: rest) a wr := by
  obtain ⟨i, hi, hz, hsz, hb⟩ := info_parts hinfo
  have hadd : ∀ j, (⟨b, o', none⟩ : Addr).add j = ⟨b, o' + j, none⟩ := fun j => by unfold Addr.add; split <;> simp_all
  have g1 : ∀ j u, (iv k (List.replicate m 0))[j]? = some u → wr.cell? ((⟨b, o', none⟩ : Addr).add j) = some u := by
    intro j u hj
    have hj' : j < m := by
      have := (List.getElem?_eq_some_iff.1 hj).1
      rw [iv_length] at this
      simpa using this
    rw [hadd, hnews j hj']
    rw [iv_get] at hj
    simp [hj'] at hj
    rw [hj]
  have g2 : l.length + m ≤ maxLen := by unfold maxLen; omega
  have g3 : (l.length + m) * bytes ≤ 140737488355328 := by
    have : (l.length + m) * bytes ≤ (l.length + m) * 8 := Nat.mul_le_mul_left _ hby
    omega
  have g4 : (iv k (List.replicate m 0)).length = m * 1 := by rw [iv_length]; simp
  obtain ⟨v', w', hr, h1, h2, _⟩ := run_append_own (P := P) wr base t o.type e i (.int k 0) 1 bytes ht hi hz hsz hb rfl (by decide) v l.length (iv k l) hown ⟨b, o', none⟩ m m (iv k (List.replicate m 0)) g4 g1 (iv_one k _) g2 g3 hbase
  have h4 := append_block ht hi hz hsz hb rfl hown g4 g1 (iv_one k _) g2 g3 hr
  have hr2 : (Builtin.append_ #[t, it] o.type #[v, .int .i64 m]).run P wr = .ok v' w' := by
    rw [← hr]
    obtain ⟨_, ⟨rfl, hl0⟩ | ⟨g, cap, cur, rfl, hbg, hg, hnc, hcm, hcs, htake⟩⟩ := hown
    · exact append_make_eq wr t o.type e it i k ht hi hz hsz (by rw [hb]; exact hby) hit none 0 0 m m ⟨b, o', none⟩ hm (by omega) (fun _ => by
        have hn : Builtin.nextslicecap (0 + m) 0 ≤ 0 + m := by unfold Builtin.nextslicecap; split <;> omega
        have := Nat.mul_le_mul hn (show i.bytes ≤ 8 by rw [hb]; exact hby)
        omega) (fun j hj => by rw [hadd]; exact hnews j hj) ⟨#[], by simp [Builtin.firstCells]⟩
    · have hold : ∀ j u, (iv k l)[j]? = some u → wr.drew.cell? ((⟨g, 0, none⟩ : Addr).add j) = some u := by
        intro j u hj
        have := World.ownsRow.cells (w := wr) (base := base) (e := e) (size := 1) (v := .slice (some ⟨g, 0, none⟩) l.length cap) (n := l.length) (xs := iv k l) (g := g) ⟨by simp [iv_length], .inr ⟨g, cap, cur, rfl, hbg, hg, hnc, hcm, hcs, htake⟩⟩ rfl j u hj
        simpa using this
      exact append_make_eq wr t o.type e it i k ht hi hz hsz (by rw [hb]; exact hby) hit (some ⟨g, 0, none⟩) l.length cap m m ⟨b, o', none⟩ hm (by omega) (fun hlt => growslice_fits (by omega) (by rw [hb]; exact g3)) (fun j hj => by rw [hadd]; exact hnews j hj)
        ⟨_, run_firstCells_some (P := P) wr.drew 1 l.length ⟨g, 0, none⟩ l.length cap (iv k l) (by simp [iv_length]) hold⟩
  refine wpList_plain hgd fun K hK => ?_
  unfold Oper.wp execOp
  simp only [ho, resolve, invoke, builtin, Sem.run_bind, Sem.run_pure, Result.andThen_ok, List.map_toArray, List.map_cons, List.map_nil, hs, hx, hr2]
  refine hK _ _ (h v' w' ?_ (hbel.grown h2 hbase (fun g hg => (Own.lt hown g hg).1)) h2 h4)
  unfold Own
  rw [iv_append, List.length_append, List.length_replicate]
  exact h1
end Go.Proofs.YtfipcjchjpihkaaGreatDoor
/- The program's 'paddedTo16' at three parts. -/
namespace Go.Proofs.YtfipcjchjpihkaaGreatDoor
open Go.RowKit
set_option linter.unusedVariables false
/-- The parts so far, each filled up. -/
def padP (P : Nat → List Int) : Nat → List Int
  | 0 => []
  | k + 1 => padP P k ++ fillL (P k)
theorem own_none {k : IntKind} {e : TypeId} {base : Nat} (w : World) : Own k e base w (.slice none 0 0) [] := ⟨by simp [iv_length], .inl ⟨rfl, rfl⟩⟩
theorem i64_and15 (n : Int) : bits .and .i64 n 15 = n % 16 := by
  have h15 : (BitVec.ofInt 64 15).toNat = 2 ^ 4 - 1 := by decide
  have key : (BitVec.ofInt 64 n &&& BitVec.ofInt 64 15).toNat = (n % ((2 ^ 64 : Nat) : Int)).toNat % 2 ^ 4 := by
    rw [BitVec.toNat_and, BitVec.toNat_ofInt, h15, Nat.and_two_pow_sub_one_eq_mod]
  show IntKind.i64.wrap ((BitVec.ofInt 64 n &&& BitVec.ofInt 64 15).toNat : Nat) = n % 16
  rw [key, IntKind.wrap_i64]
  omega
theorem neg_and15 (n : Nat) (h : n ≤ 1000000) : bits .and .i64 (-(n : Int)) 15 = (fillN n : Nat) := by
  rw [i64_and15]
  unfold fillN
  omega
set_option maxRecDepth 10000 in
set_option maxHeartbeats 2000000 in
theorem padded_any (P : Nat → List Int) (pl pg po pc : Nat → Nat) (hpl : ∀ k, k < 3 → (P k).length = pl k) (hps : ∀ k, k < 3 → pl k ≤ 65536) (gp gz : Nat) (w : World) (hgp : gp < w.heap.size)
    (HP : Hid (∀ k, k < 3 → w.cell? ⟨gp, k, none⟩ = some (.slice (some ⟨pg k, po k, none⟩) (pl k) (pc k)))) (HS : Hid (∀ k, k < 3 → Sl w (pg k) (po k) (P k))) (HZ : Hid (∀ j, j < 16 → w.cell? ⟨gz, j, none⟩ = some (.int .u8 0))) (hgz : gz < w.heap.size) :
    Calls Tryz.prog 74 #[.slice (some ⟨gp, 0, none⟩) 3 3] w fun e w' => ∃ v, e = .returned v ∧ Own .u8 5 w.heap.size w' v (padP P 3) ∧ Below w.heap.size w w' := by
  go_enter Tryz.func74, Tryz.ntmps74
  go_wp2
  go_loopw [3, 8] (fun v i wr => ∃ k : Nat, k ≤ 3 ∧ i = .int .i64 k ∧ Own .u8 5 w.heap.size wr v (padP P k) ∧ (padP P k).length ≤ k * 65600 ∧ Below w.heap.size w wr) (fun _ i _ => 3 - (intOf i).toNat)
  case atStart => exact ⟨0, Nat.zero_le _, rfl, own_none w, Nat.le_refl _, Below.refl _ _⟩
  case round =>
    obtain ⟨k, hk, rfl, hown, hpl2, hbel⟩ := hrel
    have hsz := hbel.size
    have HO : Hid _ := hown
    have HBL : Hid _ := hbel
    clear hown hbel
    by_cases hlt : k < 3
    · have hki : (k : Int) < 3 := by omega
      have hc : wr.cell? ⟨gp, k, none⟩ = some (.slice (some ⟨pg k, po k, none⟩) (pl k) (pc k)) := (HBL.out.cell (p := ⟨gp, k, none⟩) hgp).trans (HP.out k hlt)
      have HSk : Hid (Sl wr (pg k) (po k) (P k)) := Sl.later (HS.out k hlt) HBL.out (HS.out k hlt).1
      have HZ2 : Hid (∀ j, j < 16 → wr.cell? ⟨gz, j, none⟩ = some (.int .u8 0)) := fun j hj => (HBL.out.cell (p := ⟨gz, j, none⟩) hgz).trans (HZ.out j hj)
      have HL : Hid ((P k).length = pl k) := hpl k hlt
      have hps2 := hps k hlt
      have HSt : Hid (padP P (k + 1) = padP P k ++ (P k ++ List.replicate (fillN (pl k)) 0)) := by show padP P k ++ fillL (P k) = _; unfold fillL; rw [hpl k hlt]
      have hf16 := fillN_lt (pl k)
      have HN : Hid _ := neg_and15 (pl k) (by omega)
      clear hpl hps HP HS
      obtain ⟨L, eL⟩ : ∃ L, L = padP P k := ⟨_, rfl⟩
      rw [← eL] at HO hpl2 HSt
      obtain ⟨Pk, ePk⟩ : ∃ x, x = P k := ⟨_, rfl⟩
      rw [← ePk] at HSk HL HSt
      obtain ⟨n, en⟩ : ∃ x, x = pl k := ⟨_, rfl⟩
      rw [← en] at hc HL HSt HN hps2 hf16
      obtain ⟨g, eg⟩ : ∃ x, x = pg k := ⟨_, rfl⟩
      rw [← eg] at hc HSk
      obtain ⟨o, eo⟩ : ∃ x, x = po k := ⟨_, rfl⟩
      rw [← eo] at hc HSk
      obtain ⟨c, ec⟩ : ∃ x, x = pc k := ⟨_, rfl⟩
      rw [← ec] at hc
      clear eL ePk en eg eo ec
      go_wp2_with (at_builtin; first
        | (refine extend_law .u8 22 5 1 Tryz.underlying22 infoE8 (by decide) rfl (.tmp 12) (.tmp 13) rfl w.heap.size w wr _ L g o n c Pk HL.out rfl rfl HO.out HBL.out hsz (by have := HL.out; omega) (by have := HL.out; intro j hj; exact HSk.out.2 j (by omega)) ?_; intro v1 w1 ho1 hb1 hg1 hd1; refine stop_here ?_))
      refine hid_mk ?_
      have HO1 : Hid _ := ho1
      have HB1 : Hid _ := hb1
      have HZ3 : Hid (∀ j, j < 16 → w1.cell? ⟨gz, j, none⟩ = some (.int .u8 0)) := fun j hj => (hb1.cell (p := ⟨gz, j, none⟩) hgz).trans (HZ.out j hj)
      have hs1 := hb1.size
      clear ho1 hb1 hg1 hd1 HO HBL HSk HZ2 hc
      go_wp2_with (at_builtin; (refine zeros_law .u8 22 5 3 1 Tryz.underlying22 infoE8 (by decide) Tryz.underlying3 rfl (.tmp 15) (.tmp 19) rfl w.heap.size w w1 _ (L ++ Pk) gz 0 (fillN n) rfl (congrArg (Value.int .i64) HN.out) HO1.out HB1.out hs1 (by omega) (by have := HL.out; rw [List.length_append]; omega) (fun j hj => by rw [Nat.zero_add]; exact HZ3.out j (by omega)) ?_; intro v2 w2 ho2 hb2 hg2 hd2; refine stop_here ?_))
      refine hid_mk ?_
      rw [List.append_assoc, ← HSt.out] at ho2
      have HO2 : Hid _ := ho2
      have HB2 : Hid _ := hb2
      have hln : Hid ((padP P (k + 1)).length ≤ (k + 1) * 65600) := by show _ ≤ _; rw [HSt.out]; have := HL.out; simp; omega
      clear ho2 hb2 hg2 hd2 HO1 HB1
      go_wp2
      go_roundw
      case rel => exact ⟨k + 1, by omega, by go_num, HO2.out, hln.out, HB2.out⟩
      case measure => simp [intOf]; omega
    · obtain rfl : k = 3 := by omega
      go_wp2
      go_ret
      exact ⟨_, rfl, HO.out, HBL.out⟩
end Go.Proofs.YtfipcjchjpihkaaGreatDoor
/- As Late, and the last operations, which come up alone, need keep no class of worlds: behind operation number z the class is let go. Nothing of the program. -/
namespace Go.Proofs.YtfipcjchjpihkaaGreatDoor
open Go
set_option linter.unusedVariables false

section
variable {P : Program} {ops : Array Oper} {Q : Exit → Act → World → Prop} {md : Region.Mode} {S1 : World → Prop} {W : World} {n0 z : Nat}

/-- Until operation number n0 has come up the world is W; until number z has, it is one of S1. -/
def LateAt2 (S1 : World → Prop) (W : World) (n0 z : Nat) (listed : Array Bool) (w : World) : Prop := (listed.getD z false = false → S1 w) ∧ (listed.getD n0 false = false → w = W)
def wpAnyT2 (P : Program) (md : Region.Mode) (ops : Array Oper) (Q : Exit → Act → World → Prop) (S1 : World → Prop) (W : World) (n0 z : Nat) : Nat → Array Bool → Act → World → Prop
  | 0, listed, a, w => Region.ready md ops listed = [] ∧ Q .normal a w
  | fuel + 1, listed, a, w =>
    (Region.ready md ops listed = [] → Q .normal a w) ∧
    ∀ i ∈ Region.ready md ops listed, wpOp P ops Q i (fun a' w' => LateAt2 S1 W n0 z (listed.setIfInBounds i true) w' ∧ wpAnyT2 P md ops Q S1 W n0 z fuel (listed.setIfInBounds i true) a' w') a w
theorem wpAny_of_late2 : ∀ (fuel : Nat) (listed : Array Bool) (a : Act) (w : World), wpAnyT2 P md ops Q S1 W n0 z fuel listed a w → wpAny P md ops Q fuel listed a w
  | 0, _, _, _, h => h
  | fuel + 1, _, _, _, h => ⟨h.1, fun i hi => wpOp_mono (fun a' w' h' => wpAny_of_late2 fuel _ a' w' h'.2) (h.2 i hi)⟩
theorem lateAt_set2 {listed : Array Bool} {i : Nat} {w : World} (hi : i ≠ n0) (hz : i ≠ z) : LateAt2 S1 W n0 z (listed.setIfInBounds i true) w ↔ LateAt2 S1 W n0 z listed w := by
  unfold LateAt2
  rw [getD_set_ne false hi, getD_set_ne false hz]
/-- An operation for which number n0 waits, by a chain, may be taken first by what it yields in the world W. -/
theorem wpAnyT2_exact {i : Nat} {oi : Oper} {v : Value} (hi : ops[i]? = some oi) (hin : i ≠ n0) (hiz : i ≠ z) (path : List Nat) (hpath : pathB md ops i path = true) (hn0 : n0 ∈ path) (hsel : ∀ (j : Nat) (o : Oper) cs b, ops[j]? = some o → o.op ≠ .select cs b)
    (hQ : ∀ c a w, Q (.panic c) (a.put oi.dst v) w → Q (.panic c) a w) :
    ∀ (fuel : Nat) (listed : Array Bool) (a : Act) (w : World),
      (∀ j oj, ops[j]? = some oj → j ≠ i → listed.getD j true = false → (∀ e ∈ oj.after, Region.binds md e = true → e.on ≠ i) → oi.apart ops oj = true) →
      i ∈ Region.ready md ops listed → YieldsIf P ops (fun w' => w' = W) oi v a → LateAt2 S1 W n0 z listed w → (∀ k ∈ path, listed.getD k false = false) →
      wpAnyT2 P md ops Q S1 W n0 z fuel (listed.setIfInBounds i true) (a.put oi.dst v) w → wpAnyT2 P md ops Q S1 W n0 z (fuel + 1) listed a w := by
  intro fuel
  induction fuel with
  | zero =>
    intro listed a w _ hr hy hS hun0 H
    refine ⟨fun h => (by rw [h] at hr; cases hr), fun j hj => ?_⟩
    by_cases hji : j = i
    · subst hji; exact hy.wpOp hi (hS.2 (hun0 _ hn0)) ⟨(lateAt_set2 hin hiz).2 hS, H⟩
    · have := ready_mono hj hji
      rw [H.1] at this
      cases this
  | succ fuel ih =>
    intro listed a w hfree hr hy hS hun0 H
    refine ⟨fun h => (by rw [h] at hr; cases hr), fun j hj => ?_⟩
    by_cases hji : j = i
    · subst hji; exact hy.wpOp hi (hS.2 (hun0 _ hn0)) ⟨(lateAt_set2 hin hiz).2 hS, H⟩
    · have h1 := H.2 j (ready_mono hj hji)
      obtain ⟨hjun, oj, hoj, hall⟩ := mem_ready.1 hj
      have hiun := (mem_ready.1 hr).1
      have hnot : ∀ e ∈ oj.after, Region.binds md e = true → e.on ≠ i := fun e he hb heq => by
        have h1 := hall e he hb
        rw [heq, getD_both hiun] at h1
        cases h1
      have hjn : ∀ k ∈ path, j ≠ k := by
        intro k hk hjk
        subst hjk
        obtain ⟨p, hp, hw⟩ := path_prev path i hpath j hk
        obtain ⟨o', ho', e, he, hb, hon⟩ := Region.waitsFor_spec hw
        have : o' = oj := Option.some.inj (ho'.symm.trans hoj)
        subst this
        rcases hp with rfl | hp
        · exact hnot e he hb hon
        · have h3 := hall e he hb
          rw [hon, hun0 p hp] at h3
          cases h3
      have h2 := wpOp_putIf hoj (hfree j oj hoj hji hjun hnot) (fun cs b => hsel i oi cs b hi) (fun cs b => hsel j oj cs b hoj) hQ hy h1
      have hfree' : ∀ k ok, ops[k]? = some ok → k ≠ i → (listed.setIfInBounds j true).getD k true = false →
          (∀ e ∈ ok.after, Region.binds md e = true → e.on ≠ i) → oi.apart ops ok = true := fun k ok hk hki hun hno => by
        refine hfree k ok hk hki ?_ hno
        by_cases hjk : j = k
        · subst hjk; exact hjun
        · rw [getD_set_ne true hjk] at hun; exact hun
      refine wpOp_mono (fun a' w' h3 => ?_) h2
      have h4 := h3.2.1
      rw [Array.setIfInBounds_comm _ _ (Ne.symm hji)] at h4
      have h5 := (lateAt_set2 hin hiz).1 h4
      refine ⟨h5, ih (listed.setIfInBounds j true) a' w' hfree' (ready_mono hr (Ne.symm hji)) h3.1 h5 (fun k hk => by rw [getD_set_ne false (hjn k hk)]; exact hun0 k hk) ?_⟩
      rw [Array.setIfInBounds_comm _ _ hji]
      exact h3.2.2
/-- An operation for which number z waits, by a chain, may be taken first by what it yields in every world of S1. -/
theorem wpAnyT2_held {i : Nat} {oi : Oper} {v : Value} (hi : ops[i]? = some oi) (hin : i ≠ n0) (hiz : i ≠ z) (path : List Nat) (hpath : pathB md ops i path = true) (hn0 : z ∈ path) (hsel : ∀ (j : Nat) (o : Oper) cs b, ops[j]? = some o → o.op ≠ .select cs b)
    (hQ : ∀ c a w, Q (.panic c) (a.put oi.dst v) w → Q (.panic c) a w) :
    ∀ (fuel : Nat) (listed : Array Bool) (a : Act) (w : World),
      (∀ j oj, ops[j]? = some oj → j ≠ i → listed.getD j true = false → (∀ e ∈ oj.after, Region.binds md e = true → e.on ≠ i) → oi.apart ops oj = true) →
      i ∈ Region.ready md ops listed → YieldsIf P ops S1 oi v a → LateAt2 S1 W n0 z listed w → (∀ k ∈ path, listed.getD k false = false) →
      wpAnyT2 P md ops Q S1 W n0 z fuel (listed.setIfInBounds i true) (a.put oi.dst v) w → wpAnyT2 P md ops Q S1 W n0 z (fuel + 1) listed a w := by
  intro fuel
  induction fuel with
  | zero =>
    intro listed a w _ hr hy hS hun0 H
    refine ⟨fun h => (by rw [h] at hr; cases hr), fun j hj => ?_⟩
    by_cases hji : j = i
    · subst hji; exact hy.wpOp hi (hS.1 (hun0 _ hn0)) ⟨(lateAt_set2 hin hiz).2 hS, H⟩
    · have := ready_mono hj hji
      rw [H.1] at this
      cases this
  | succ fuel ih =>
    intro listed a w hfree hr hy hS hun0 H
    refine ⟨fun h => (by rw [h] at hr; cases hr), fun j hj => ?_⟩
    by_cases hji : j = i
    · subst hji; exact hy.wpOp hi (hS.1 (hun0 _ hn0)) ⟨(lateAt_set2 hin hiz).2 hS, H⟩
    · have h1 := H.2 j (ready_mono hj hji)
      obtain ⟨hjun, oj, hoj, hall⟩ := mem_ready.1 hj
      have hiun := (mem_ready.1 hr).1
      have hnot : ∀ e ∈ oj.after, Region.binds md e = true → e.on ≠ i := fun e he hb heq => by
        have h1 := hall e he hb
        rw [heq, getD_both hiun] at h1
        cases h1
      have hjn : ∀ k ∈ path, j ≠ k := by
        intro k hk hjk
        subst hjk
        obtain ⟨p, hp, hw⟩ := path_prev path i hpath j hk
        obtain ⟨o', ho', e, he, hb, hon⟩ := Region.waitsFor_spec hw
        have : o' = oj := Option.some.inj (ho'.symm.trans hoj)
        subst this
        rcases hp with rfl | hp
        · exact hnot e he hb hon
        · have h3 := hall e he hb
          rw [hon, hun0 p hp] at h3
          cases h3
      have h2 := wpOp_putIf hoj (hfree j oj hoj hji hjun hnot) (fun cs b => hsel i oi cs b hi) (fun cs b => hsel j oj cs b hoj) hQ hy h1
      have hfree' : ∀ k ok, ops[k]? = some ok → k ≠ i → (listed.setIfInBounds j true).getD k true = false →
          (∀ e ∈ ok.after, Region.binds md e = true → e.on ≠ i) → oi.apart ops ok = true := fun k ok hk hki hun hno => by
        refine hfree k ok hk hki ?_ hno
        by_cases hjk : j = k
        · subst hjk; exact hjun
        · rw [getD_set_ne true hjk] at hun; exact hun
      refine wpOp_mono (fun a' w' h3 => ?_) h2
      have h4 := h3.2.1
      rw [Array.setIfInBounds_comm _ _ (Ne.symm hji)] at h4
      have h5 := (lateAt_set2 hin hiz).1 h4
      refine ⟨h5, ih (listed.setIfInBounds j true) a' w' hfree' (ready_mono hr (Ne.symm hji)) h3.1 h5 (fun k hk => by rw [getD_set_ne false (hjn k hk)]; exact hun0 k hk) ?_⟩
      rw [Array.setIfInBounds_comm _ _ hji]
      exact h3.2.2
inductive Tag2
  | held | exact | only | tail | last
def wpRuns2 (P : Program) (ops : Array Oper) (Q : Exit → Act → World → Prop) (S1 : World → Prop) (W : World) : List (Tag2 × List Nat) → Act → World → Prop
  | [], a, w => Q .normal a w
  | (.held, ks) :: r, a, w => wpQuiet P ops S1 (fun a' => wpRuns2 P ops Q S1 W r a' w) (opsAt ops ks) a
  | (.exact, ks) :: r, a, w => wpQuiet P ops (fun w' => w' = W) (fun a' => wpRuns2 P ops Q S1 W r a' w) (opsAt ops ks) a
  | (.only, ks) :: r, a, w => wpList P ops (atEnd (fun a' w' => w' = W ∧ wpRuns2 P ops Q S1 W r a' w') Q) (opsAt ops ks) a w
  | (.tail, ks) :: r, a, w => wpList P ops (atEnd (fun a' w' => S1 w' ∧ wpRuns2 P ops Q S1 W r a' w') Q) (opsAt ops ks) a w
  | (.last, ks) :: r, a, w => wpList P ops (atEnd (fun a' w' => wpRuns2 P ops Q S1 W r a' w') Q) (opsAt ops ks) a w
def takeB2 (md : Region.Mode) (ops : Array Oper) (n0 z m : Nat) : List Nat → Array Bool → Bool
  | [], _ => true
  | k :: ks, listed => (Region.ready md ops listed).contains k && Region.free md ops listed k && plainAt ops k && (k != n0) && (k != z) && (pathB md ops k (findPath md ops m ops.size k) && (findPath md ops m ops.size k).contains m && (findPath md ops m ops.size k).all (fun j => !(listed.getD j false))) && takeB2 md ops n0 z m ks (listed.setIfInBounds k true)
def runsB2 (md : Region.Mode) (ops : Array Oper) (n0 z : Nat) : List (Tag2 × List Nat) → Array Bool → Bool
  | [], listed => (Region.ready md ops listed).isEmpty
  | (.held, ks) :: r, listed => takeB2 md ops n0 z z ks listed && runsB2 md ops n0 z r (setAll ks listed)
  | (.exact, ks) :: r, listed => takeB2 md ops n0 z n0 ks listed && runsB2 md ops n0 z r (setAll ks listed)
  | (.only, [k]) :: r, listed => decide (Region.ready md ops listed = [k]) && (k != n0) && (k != z) && !(listed.getD n0 false) && runsB2 md ops n0 z r (listed.setIfInBounds k true)
  | (.tail, [k]) :: r, listed => decide (Region.ready md ops listed = [k]) && (k == n0 || listed.getD n0 false) && runsB2 md ops n0 z r (listed.setIfInBounds k true)
  | (.last, [k]) :: r, listed => decide (Region.ready md ops listed = [k]) && (k == n0 || listed.getD n0 false) && (k == z || listed.getD z false) && runsB2 md ops n0 z r (listed.setIfInBounds k true)
  | _, _ => false
def runsLen2 : List (Tag2 × List Nat) → Nat
  | [] => 0
  | (_, ks) :: r => ks.length + runsLen2 r
theorem takes_exact2 (hs : Region.noSelect ops = true) (hQ : ∀ c a d v w, Q (.panic c) (a.put d v) w → Q (.panic c) a w) (n : Nat) : ∀ (ks : List Nat) (listed : Array Bool) (a : Act) (w : World), takeB2 md ops n0 z n0 ks listed = true → LateAt2 S1 W n0 z listed w →
    wpQuiet P ops (fun w' => w' = W) (fun a' => wpAnyT2 P md ops Q S1 W n0 z n (setAll ks listed) a' w) (opsAt ops ks) a → wpAnyT2 P md ops Q S1 W n0 z (ks.length + n) listed a w
  | [], listed, a, w, _, _, h => by rw [List.length_nil, Nat.zero_add]; exact h
  | k :: ks, listed, a, w, hB, hS, h => by
    simp only [takeB2, Bool.and_eq_true, bne_iff_ne, ne_eq, List.contains_eq_mem, decide_eq_true_eq, List.all_eq_true, Bool.not_eq_true'] at hB
    obtain ⟨⟨⟨⟨⟨⟨hr, hf⟩, hp⟩, hk⟩, hkz⟩, ⟨hw0, hn0⟩, hun⟩, hB'⟩ := hB
    unfold plainAt at hp
    split at hp
    · rename_i o ho
      have hops : opsAt ops (k :: ks) = o :: opsAt ops ks := by simp [opsAt, ho]
      rw [hops] at h
      unfold wpQuiet at h
      rw [show (k :: ks).length + n = (ks.length + n) + 1 by simp; omega]
      by_cases hw : Region.wanted o (yielded ops a.tmps) = true
      · simp only [hw, if_true] at h
        obtain ⟨v, h1, h2⟩ := h
        refine wpAnyT2_exact ho hk hkz _ hw0 hn0 (Region.noSelect_spec hs) (fun c a w => hQ c a _ _ w) _ listed a w (Region.free_spec ho hf) (by simpa using hr) (.inl ⟨hw, fun w' hw' => ?_⟩) hS hun (takes_exact2 hs hQ n ks _ _ w hB' ((lateAt_set2 hk hkz).2 hS) h2)
        have h3 := h1 w' hw'
        unfold Oper.quietAt at h3
        generalize hrun : (execOp a.eval o).run P w' = r at h3
        cases r with
        | ok m w'' =>
          obtain ⟨u, rfl⟩ := plain_value hp hrun
          simp only [Oper.quietUpon] at h3
          rw [h3.1, h3.2]
        | halt x w'' => simp only [Oper.quietUpon] at h3
      · simp only [hw] at h
        exact wpAnyT2_exact ho hk hkz _ hw0 hn0 (Region.noSelect_spec hs) (fun c a w => hQ c a _ _ w) _ listed a w (Region.free_spec ho hf) (by simpa using hr) (.inr ⟨by simpa using hw, rfl⟩) hS hun (takes_exact2 hs hQ n ks _ _ w hB' ((lateAt_set2 hk hkz).2 hS) h)
    · cases hp
theorem takes_held2 (hs : Region.noSelect ops = true) (hQ : ∀ c a d v w, Q (.panic c) (a.put d v) w → Q (.panic c) a w) (n : Nat) : ∀ (ks : List Nat) (listed : Array Bool) (a : Act) (w : World), takeB2 md ops n0 z z ks listed = true → LateAt2 S1 W n0 z listed w →
    wpQuiet P ops S1 (fun a' => wpAnyT2 P md ops Q S1 W n0 z n (setAll ks listed) a' w) (opsAt ops ks) a → wpAnyT2 P md ops Q S1 W n0 z (ks.length + n) listed a w
  | [], listed, a, w, _, _, h => by rw [List.length_nil, Nat.zero_add]; exact h
  | k :: ks, listed, a, w, hB, hS, h => by
    simp only [takeB2, Bool.and_eq_true, bne_iff_ne, ne_eq, List.contains_eq_mem, decide_eq_true_eq, List.all_eq_true, Bool.not_eq_true'] at hB
    obtain ⟨⟨⟨⟨⟨⟨hr, hf⟩, hp⟩, hk⟩, hkz⟩, ⟨hw0, hn0⟩, hun⟩, hB'⟩ := hB
    unfold plainAt at hp
    split at hp
    · rename_i o ho
      have hops : opsAt ops (k :: ks) = o :: opsAt ops ks := by simp [opsAt, ho]
      rw [hops] at h
      unfold wpQuiet at h
      rw [show (k :: ks).length + n = (ks.length + n) + 1 by simp; omega]
      by_cases hw : Region.wanted o (yielded ops a.tmps) = true
      · simp only [hw, if_true] at h
        obtain ⟨v, h1, h2⟩ := h
        refine wpAnyT2_held ho hk hkz _ hw0 hn0 (Region.noSelect_spec hs) (fun c a w => hQ c a _ _ w) _ listed a w (Region.free_spec ho hf) (by simpa using hr) (.inl ⟨hw, fun w' hw' => ?_⟩) hS hun (takes_held2 hs hQ n ks _ _ w hB' ((lateAt_set2 hk hkz).2 hS) h2)
        have h3 := h1 w' hw'
        unfold Oper.quietAt at h3
        generalize hrun : (execOp a.eval o).run P w' = r at h3
        cases r with
        | ok m w'' =>
          obtain ⟨u, rfl⟩ := plain_value hp hrun
          simp only [Oper.quietUpon] at h3
          rw [h3.1, h3.2]
        | halt x w'' => simp only [Oper.quietUpon] at h3
      · simp only [hw] at h
        exact wpAnyT2_held ho hk hkz _ hw0 hn0 (Region.noSelect_spec hs) (fun c a w => hQ c a _ _ w) _ listed a w (Region.free_spec ho hf) (by simpa using hr) (.inr ⟨by simpa using hw, rfl⟩) hS hun (takes_held2 hs hQ n ks _ _ w hB' ((lateAt_set2 hk hkz).2 hS) h)
    · cases hp
theorem setAll_late2 {m : Nat} {w : World} : ∀ (ks : List Nat) (listed : Array Bool), takeB2 md ops n0 z m ks listed = true → LateAt2 S1 W n0 z listed w → LateAt2 S1 W n0 z (setAll ks listed) w
  | [], _, _, h => h
  | k :: ks, listed, hB, h => by
    simp only [takeB2, Bool.and_eq_true, bne_iff_ne, ne_eq] at hB
    exact setAll_late2 ks _ hB.2 ((lateAt_set2 hB.1.1.1.2 hB.1.1.2).2 h)
theorem runs_sound2 (hs : Region.noSelect ops = true) (hQ : ∀ c a d v w, Q (.panic c) (a.put d v) w → Q (.panic c) a w) : ∀ (runs : List (Tag2 × List Nat)) (listed : Array Bool) (a : Act) (w : World), runsB2 md ops n0 z runs listed = true → LateAt2 S1 W n0 z listed w →
    wpRuns2 P ops Q S1 W runs a w → wpAnyT2 P md ops Q S1 W n0 z (runsLen2 runs) listed a w
  | [], listed, a, w, hB, _, h => by
    simp only [runsB2, List.isEmpty_iff] at hB
    exact ⟨hB, h⟩
  | (.held, ks) :: r, listed, a, w, hB, hS, h => by
    simp only [runsB2, Bool.and_eq_true] at hB
    refine takes_held2 hs hQ _ ks listed a w hB.1 hS (wpQuiet_post (fun a' h' => ?_) _ _ h)
    refine runs_sound2 hs hQ r _ a' w hB.2 ?_ h'
    exact setAll_late2 ks listed hB.1 hS
  | (.exact, ks) :: r, listed, a, w, hB, hS, h => by
    simp only [runsB2, Bool.and_eq_true] at hB
    refine takes_exact2 hs hQ _ ks listed a w hB.1 hS (wpQuiet_post (fun a' h' => ?_) _ _ h)
    refine runs_sound2 hs hQ r _ a' w hB.2 ?_ h'
    exact setAll_late2 ks listed hB.1 hS
  | (.only, [k]) :: r, listed, a, w, hB, hS, h => by
    simp only [runsB2, Bool.and_eq_true, decide_eq_true_eq, bne_iff_ne, ne_eq, Bool.not_eq_true'] at hB
    obtain ⟨⟨⟨⟨hr, hk⟩, hkz⟩, hun⟩, hB'⟩ := hB
    rw [show runsLen2 ((Tag2.only, [k]) :: r) = runsLen2 r + 1 by simp [runsLen2]; omega]
    refine ⟨fun h0 => (by rw [hr] at h0; cases h0), fun i hi => ?_⟩
    rw [hr] at hi
    obtain rfl : i = k := by simpa using hi
    obtain ⟨_, o, ho, _⟩ := mem_ready.1 (show i ∈ Region.ready md ops listed by rw [hr]; simp)
    have hops : opsAt ops [i] = [o] := by simp [opsAt, ho]
    simp only [wpRuns2, hops] at h
    refine wpOp_mono (fun a' w' h' => ?_) (wpOp_of_list ho h)
    have hl : LateAt2 S1 W n0 z (listed.setIfInBounds i true) w' := by
      refine (lateAt_set2 hk hkz).2 ⟨fun hzz => ?_, fun _ => h'.1⟩
      rw [h'.1, ← hS.2 hun]
      exact hS.1 hzz
    exact ⟨hl, runs_sound2 hs hQ r _ a' w' hB' hl h'.2⟩
  | (.tail, [k]) :: r, listed, a, w, hB, hS, h => by
    simp only [runsB2, Bool.and_eq_true, decide_eq_true_eq, Bool.or_eq_true, beq_iff_eq] at hB
    obtain ⟨⟨hr, hk⟩, hB'⟩ := hB
    rw [show runsLen2 ((Tag2.tail, [k]) :: r) = runsLen2 r + 1 by simp [runsLen2]; omega]
    refine ⟨fun h0 => (by rw [hr] at h0; cases h0), fun i hi => ?_⟩
    rw [hr] at hi
    obtain rfl : i = k := by simpa using hi
    obtain ⟨hiun, o, ho, _⟩ := mem_ready.1 (show i ∈ Region.ready md ops listed by rw [hr]; simp)
    have hops : opsAt ops [i] = [o] := by simp [opsAt, ho]
    simp only [wpRuns2, hops] at h
    refine wpOp_mono (fun a' w' h' => ?_) (wpOp_of_list ho h)
    have hl : LateAt2 S1 W n0 z (listed.setIfInBounds i true) w' := by
      refine ⟨fun _ => h'.1, fun hx => ?_⟩
      exfalso
      rcases hk with hk | hk
      · subst hk
        rcases Nat.lt_or_ge i listed.size with hlt | hge
        · simp [hlt] at hx
        · simp [Array.getElem?_eq_none hge] at hiun
      · rw [getD_set_true hk] at hx
        cases hx
    exact ⟨hl, runs_sound2 hs hQ r _ a' w' hB' hl h'.2⟩
  | (.last, [k]) :: r, listed, a, w, hB, hS, h => by
    simp only [runsB2, Bool.and_eq_true, decide_eq_true_eq, Bool.or_eq_true, beq_iff_eq] at hB
    obtain ⟨⟨⟨hr, hk⟩, hkz⟩, hB'⟩ := hB
    rw [show runsLen2 ((Tag2.last, [k]) :: r) = runsLen2 r + 1 by simp [runsLen2]; omega]
    refine ⟨fun h0 => (by rw [hr] at h0; cases h0), fun i hi => ?_⟩
    rw [hr] at hi
    obtain rfl : i = k := by simpa using hi
    obtain ⟨hiun, o, ho, _⟩ := mem_ready.1 (show i ∈ Region.ready md ops listed by rw [hr]; simp)
    have hops : opsAt ops [i] = [o] := by simp [opsAt, ho]
    simp only [wpRuns2, hops] at h
    refine wpOp_mono (fun a' w' h' => ?_) (wpOp_of_list ho h)
    have hl : LateAt2 S1 W n0 z (listed.setIfInBounds i true) w' := by
      refine ⟨fun hx => ?_, fun hx => ?_⟩
      · exfalso
        rcases hkz with hk | hk
        · subst hk
          rcases Nat.lt_or_ge i listed.size with hlt | hge
          · simp [hlt] at hx
          · simp [Array.getElem?_eq_none hge] at hiun
        · rw [getD_set_true hk] at hx
          cases hx
      exfalso
      rcases hk with hk | hk
      · subst hk
        rcases Nat.lt_or_ge i listed.size with hlt | hge
        · simp [hlt] at hx
        · simp [Array.getElem?_eq_none hge] at hiun
      · rw [getD_set_true hk] at hx
        cases hx
    exact ⟨hl, runs_sound2 hs hQ r _ a' w' hB' hl h'⟩
/-- THE LAW. -/
theorem wp_region_late2 {id : Nat} {a : Act} {w : World} {l : List Oper} (n0 z : Nat) (S1 : World → Prop) (runs : List (Tag2 × List Nat)) (hm : P.follows .mixedOrders = true)
    (hB : (Region.noSelect l.toArray && decide (runsLen2 runs = l.toArray.size) && runsB2 .any l.toArray n0 z runs (Array.replicate l.toArray.size false)) = true)
    (hS : S1 w.drew) (h : wpRuns2 P l.toArray (Calm Q) S1 w.drew runs a w.drew) : (Code.region id l.toArray true).wp P Q a w := by
  simp only [Bool.and_eq_true, decide_eq_true_eq] at hB
  refine Code.wp_mono (Q := Calm Q) calm_imp ?_
  have h1 := runs_sound2 (md := .any) (n0 := n0) (z := z) (Q := Calm Q) hB.1.1 (fun _ _ _ _ _ h => h) runs (Array.replicate l.toArray.size false) a w.drew hB.2 ⟨fun _ => hS, fun _ => rfl⟩ h
  rw [hB.1.2] at h1
  exact wp_region_any hm (wpAny_of_late2 _ _ _ _ h1)
end
theorem last_norm {Q : Exit → Act → World → Prop} {a : Act} {w : World} (h : Q .normal a w) : atEnd (fun a' w' => Calm Q Exit.normal a' w') (Calm Q) Exit.normal a w := h
end Go.Proofs.YtfipcjchjpihkaaGreatDoor
/- The program's 'boxTag'. -/
namespace Go.Proofs.YtfipcjchjpihkaaGreatDoor
open Go.RowKit
set_option linter.unusedVariables false
theorem mixedE : Tryz.prog.follows .mixedOrders = true := by kernel_rfl
theorem infoE16 : (Tryz.prog.info? 27).map (·.size) = some 16 := by kernel_rfl
theorem zeroE16 : ∀ W, (zeroValue 27).run Tryz.prog W = .ok (.agg (Iv .u8 (zeroL 16))) W := (zero_of_info (n := 16) (by kernel_rfl)).1
theorem le8_row (n m : Nat) : putFrom (putFrom (zeroL 16) 0 (fun i => (n : Int) / 256 ^ i % 256) 8) 8 (fun i => (m : Int) / 256 ^ i % 256) 8 = le8 n ++ le8 m := by
  simp [putFrom, zeroL, le8, List.range_succ, List.range_zero]
def three (A B C : List Int) : Nat → List Int
  | 0 => A
  | 1 => B
  | _ => C
def threeN (a b c : Nat) : Nat → Nat
  | 0 => a
  | 1 => b
  | _ => c
theorem padP_three (E H L : List Int) (hL : L.length = 16) : padP (three E H L) 3 = fillL E ++ (fillL H ++ L) := by
  have : fillL L = L := by unfold fillL fillN; rw [hL]; simp
  simp [padP, three, this, List.append_assoc]
theorem zeroIv (n j : Nat) (h : j < n) : (Iv .u8 (zeroL n))[j]? = some (.int .u8 0) := by simp [Iv, zeroL, h]
theorem tagOf_len (K zs : List Int) : (tagOf K zs).length = 16 := by simp [tagOf, bytes16]
/-- What a contract says of the authenticator. -/
def PolOk (f : Nat) : Prop := ∀ (K zs : List Int) (b cap : Nat) (W : World), K.length = 32 → Bytes K → Bytes zs → zs.length ≤ 200000 → zs.length ≤ cap → cap ≤ 9223372036854775807 → Sl W b 0 zs →
  Calls Tryz.prog f #[.agg (Iv .u8 K), .slice (some ⟨b, 0, none⟩) zs.length cap] W fun e w' => e = .returned (.agg (Iv .u8 (tagOf K zs))) ∧ Below W.heap.size W w'
set_option maxRecDepth 10000 in
set_option maxHeartbeats 1000000 in
theorem boxTag_any (HPO : Hid (PolOk 73)) (key nonce : List Int) (hk : key.length = 32) (hr : nonce.length = 12) (B : Nat → List Int) (hB : ∀ i, (B i).length = 64) (HC : Hid (ChaOk 71 key nonce B MixTab)) (hBb : ∀ i, Bytes (B i))
    (H E : List Int) (n m : Nat) (hn : H.length = n) (hm : E.length = m) (hn2 : n ≤ 65536) (hm2 : m ≤ 65536) (hHb : Bytes H) (hEb : Bytes E) (hg ho hc eg eo ec : Nat) (w : World) (HSH : Hid (Sl w hg ho H)) (HSE : Hid (Sl w eg eo E)) (HT : Hid (MixTab w))
    (T : List Int) (hT : Hid (tagB B E H = T)) :
    Calls Tryz.prog 60 #[.agg (Iv .u8 key), .agg (Iv .u8 nonce), .slice (some ⟨hg, ho, none⟩) n hc, .slice (some ⟨eg, eo, none⟩) m ec] w fun e w' => e = .returned (.agg (Iv .u8 T)) ∧ Below w.heap.size w w' := by
  have hzv := zeroE16
  have hzw := zeroE64
  have hi32 : Hid ((Tryz.prog.info? 25).map (·.size) = some (Iv .u8 key).size) := by show _ = _; rw [Iv_size, hk]; exact infoE32
  have hi12 : Hid ((Tryz.prog.info? 78).map (·.size) = some (Iv .u8 nonce).size) := by show _ = _; rw [Iv_size, hr]; exact infoE12
  have hi64 : Hid (∀ l : List Int, l.length = 64 → (Tryz.prog.info? 88).map (·.size) = some (Iv .u8 l).size) := fun l hl => by rw [Iv_size, hl]; exact infoE64
  have hi16 : Hid (∀ l : List Int, l.length = 16 → (Tryz.prog.info? 27).map (·.size) = some (Iv .u8 l).size) := fun l hl => by rw [Iv_size, hl]; exact infoE16
  have hz64 : Hid (∀ l : List Int, l.length = 64 → (Iv .u8 (zeroL 64)).size = (Iv .u8 l).size) := fun l hl => by rw [Iv_size, Iv_size, hl]; simp [zeroL]
  go_enter Tryz.func60, Tryz.ntmps60
  go_wp2_with fail
  obtain ⟨W, hW, g0, g1, g2, g3, hs, hBW⟩ := alloc4 w (.cells (Iv .u8 key) 25) (.cells (Iv .u8 nonce) 78) (.cells (Iv .u8 (zeroL 16)) 27) (.cells (Iv .u8 (zeroL 16)) 27)
  rw [hW]
  clear hW
  refine (putLittle64_any (w.heap.size + 1 + 1 + 1) 0 8 16 27 (zeroL 16) m W g3 (by decide) (by decide) (by omega)).mono ?_
  rintro e W1 ⟨rfl, hW1⟩
  have q3 : W1.heap[w.heap.size + 1 + 1 + 1]? = some (.cells (Iv .u8 (putFrom (zeroL 16) 0 (fun i => (m : Int) / 256 ^ i % 256) 8)) 27) := by rw [hW1]; exact setRow_heap _ _ _ _ _ _ g3
  have q0 : W1.heap[w.heap.size]? = some (.cells (Iv .u8 key) 25) := by rw [hW1, setRow_far _ _ _ _ (by omega)]; exact g0
  have q1 : W1.heap[w.heap.size + 1]? = some (.cells (Iv .u8 nonce) 78) := by rw [hW1, setRow_far _ _ _ _ (by omega)]; exact g1
  have q2 : W1.heap[w.heap.size + 1 + 1]? = some (.cells (Iv .u8 (zeroL 16)) 27) := by rw [hW1, setRow_far _ _ _ _ (by omega)]; exact g2
  have qs : W1.heap.size = w.heap.size + 1 + 1 + 1 + 1 := by rw [hW1]; simp [hs]
  have qB : Hid (Below w.heap.size w W1) := by show Below _ _ _; rw [hW1]; exact below_setRow hBW _ (by omega) _
  have Q3 : Hid _ := q3
  clear hW1 g0 g1 g2 g3 hBW hs
  go_wp2_with fail
  refine (putLittle64_any (w.heap.size + 1 + 1 + 1) 8 8 8 27 _ n W1 Q3.out (by rw [putFrom_length _ _ _ _ (by simp [zeroL])]; simp [zeroL]) (by decide) (by omega)).mono ?_
  rintro e W2 ⟨rfl, hW2⟩
  rw [le8_row] at hW2
  have r3 : W2.heap[w.heap.size + 1 + 1 + 1]? = some (.cells (Iv .u8 (le8 m ++ le8 n)) 27) := by rw [hW2]; exact setRow_heap _ _ _ _ _ _ Q3.out
  have r0 : W2.heap[w.heap.size]? = some (.cells (Iv .u8 key) 25) := by rw [hW2, setRow_far _ _ _ _ (by omega)]; exact q0
  have r1 : W2.heap[w.heap.size + 1]? = some (.cells (Iv .u8 nonce) 78) := by rw [hW2, setRow_far _ _ _ _ (by omega)]; exact q1
  have r2 : W2.heap[w.heap.size + 1 + 1]? = some (.cells (Iv .u8 (zeroL 16)) 27) := by rw [hW2, setRow_far _ _ _ _ (by omega)]; exact q2
  have rs : W2.heap.size = w.heap.size + 1 + 1 + 1 + 1 := by rw [hW2]; simp [qs]
  have RB : Hid (Below w.heap.size w W2) := by show Below _ _ _; rw [hW2]; exact below_setRow qB.out _ (by omega) _
  have R0 : Hid _ := r0
  have R1 : Hid _ := r1
  have R2 : Hid _ := r2
  have R3 : Hid _ := r3
  clear hW2 q0 q1 q2 q3 Q3 qs qB r0 r1 r2 r3
  go_wp2_with (with_reducible refine wpList_id ?_; first
    | refine wpList_load_row rfl 25 _ rfl w.heap.size rfl _ (Iv .u8 key) _ _ R0.out Tryz.underlying25 rfl hi32.out ?_
    | refine wpList_load_row rfl 78 _ rfl (w.heap.size + 1) rfl _ (Iv .u8 nonce) _ _ R1.out Tryz.underlying78 rfl hi12.out ?_)
  refine (HC.out 0 W2 (by decide) (MixTab.later HT.out RB.out (Nat.le_refl _))).mono ?_
  rintro e w3 ⟨rfl, hb3⟩
  have hs3 := hb3.size
  have K3 : Hid ((w3.alloc (.cells (Iv .u8 (zeroL 64)) 88)).heap[w3.heap.size]? = some (.cells (Iv .u8 (zeroL 64)) 88)) := heap_alloc_new _ _
  go_wp2_with (with_reducible refine wpList_id ?_; refine wpList_put_row rfl 88 _ _ rfl w3.heap.size (Iv .u8 (B 0)) rfl rfl _ _ K3.out (hi64.out _ (hB _)) (hz64.out _ (hB _)) (Iv_one _ _) (fun X hX => stop_here ?_))
  refine hid_mk ?_
  have xs : X.heap.size = w3.heap.size + 1 := by rw [hX.size]; simp
  have X10 : Hid (X.heap[w3.heap.size]? = some (.cells (Iv .u8 (B 0)) 88)) := hX.here
  have X2 : Hid (X.heap[w.heap.size + 1 + 1]? = some (.cells (Iv .u8 (zeroL 16)) 27)) := (hX.far _ (by omega)).trans ((heap_alloc_old _ _ (by omega)).trans ((hb3.block _ (by omega)).trans R2.out))
  have X3 : Hid (X.heap[w.heap.size + 1 + 1 + 1]? = some (.cells (Iv .u8 (le8 m ++ le8 n)) 27)) := (hX.far _ (by omega)).trans ((heap_alloc_old _ _ (by omega)).trans ((hb3.block _ (by omega)).trans R3.out))
  have XB : Hid (Below w.heap.size w X) := hX.below _ _ ((RB.out.trans (hb3.mono (by omega))).alloc (by omega) _) (by omega)
  obtain ⟨gb, egb⟩ : ∃ x, x = w3.heap.size := ⟨_, rfl⟩
  rw [← egb] at X10 xs hs3 ⊢
  clear egb hX hb3 K3 R0 R1 R2 R3 RB hzv hzw
  have S0 : ∃ x : Bel X.heap.size X, X.drew = x.w := ⟨⟨X.drew, below_drews (Below.refl _ _) 1⟩, rfl⟩
  go_wp2_with fail
  refine wp_region_late2 6 9 (fun w' => ∃ x : Bel X.heap.size X, w' = x.w) [(.held, [0, 1, 2]), (.exact, [3, 4, 5]), (.tail, [6]), (.tail, [7]), (.tail, [8]), (.last, [9])] mixedE (by kernel_rfl) S0 ?_
  simp only [wpRuns2, opsAt_cons, opsAt_nil, nthOp_zero, nthOp_succ, List.cons_append, List.nil_append]
  obtain ⟨K, eK⟩ : ∃ K, K = (B 0).take 32 := ⟨_, rfl⟩
  have hk32 : K.length = 32 := by rw [eK, List.length_take, hB]; rfl
  have hKb : Bytes K := by rw [eK]; exact bytes_take (hBb 0) 32
  have HT2 : Hid (tagOf K (macL E H) = T) := by show _ = _; rw [eK]; exact hT.out
  have HRG : Hid (∀ W, (∃ x : Bel X.heap.size X, W = x.w) → W.rangeAt gb 0 (K.map (Value.int .u8))) := fun W hW => by
    obtain ⟨x, rfl⟩ := hW
    rw [eK]
    have h := range_row (l := (B 0).map (Value.int .u8)) ((x.bel.block _ (by omega)).trans X10.out) 0 32
    simpa [List.map_take] using h
  refine quietVal rfl (.slice (some ⟨gb, 0, none⟩) 32 64) (fun w => by kernel_rfl) ?_
  simp only [Act.put, List.setIfInBounds_toArray, List.set_cons_succ, List.set_cons_zero]
  refine quietVal rfl (.pointer (some ⟨gb, 0, none⟩)) (fun w => by kernel_rfl) ?_
  simp only [Act.put, List.setIfInBounds_toArray, List.set_cons_succ, List.set_cons_zero]
  refine wpQuiet_load_mid rfl 25 _ rfl gb 0 rfl (K.map (Value.int .u8)) _ HRG.out Tryz.underlying25 rfl (by rw [List.length_map, hk32]; exact infoE32) ?_
  rw [show (K.map (Value.int .u8)).toArray = Iv .u8 K from rfl]
  clear eK HRG
  simp only [Act.put, List.setIfInBounds_toArray, List.set_cons_succ, List.set_cons_zero]
  refine wpQuiet_nil ?_
  repeat (go_big_quiet_step (fail))
  refine wpQuiet_nil ?_
  go_wp2_with fail
  obtain ⟨Y, hY⟩ : ∃ Y, Y = (X.alloc (.cells #[.slice (some ⟨eg, eo, none⟩) m ec, .slice (some ⟨hg, ho, none⟩) n hc, .slice (some ⟨w.heap.size + 1 + 1 + 1, 0, none⟩) 16 16] 22)).drew := ⟨_, rfl⟩
  have hS1 : Hid (Below X.heap.size X Y) := by show Below _ _ _; rw [hY]; exact below_drews ((Below.refl _ _).alloc (Nat.le_refl _) _) 1
  have hgp : Hid (Y.heap[gb + 1]? = some (.cells #[.slice (some ⟨eg, eo, none⟩) m ec, .slice (some ⟨hg, ho, none⟩) n hc, .slice (some ⟨w.heap.size + 1 + 1 + 1, 0, none⟩) 16 16] 22)) := by show _ = _; rw [hY, ← xs]; exact heap_alloc_new X _
  have hsx : gb + 1 < Y.heap.size := by rw [hY]; simp; omega
  rw [← hY]
  clear hY
  refine ⟨⟨⟨_, hS1.out⟩, rfl⟩, ?_⟩
  go_wp2_with fail
  have YB : Hid (Below w.heap.size w Y) := XB.out.trans (hS1.out.mono (by omega))
  have Y3 := Sl.of_row ((hS1.out.block _ (by omega)).trans X3.out)
  refine (padded_any (three E H (le8 m ++ le8 n)) (threeN m n 16) (threeN eg hg (w.heap.size + 1 + 1 + 1)) (threeN eo ho 0) (threeN ec hc 16) ?_ ?_ (gb + 1) (w.heap.size + 1 + 1) Y hsx ?_ ?_ ?_ (by omega)).mono ?_
  · intro k hk; match k, hk with | 0, _ => exact hm | 1, _ => exact hn | 2, _ => simp [three, threeN, le8_length]
  · intro k hk; match k, hk with | 0, _ => exact hm2 | 1, _ => exact hn2 | 2, _ => show (16 : Nat) ≤ 65536; decide
  · show ∀ k, k < 3 → _
    intro k hk
    rw [cell_of_row _ _ _ _ _ _ hgp.out]
    match k, hk with | 0, _ => rfl | 1, _ => rfl | 2, _ => rfl
  · show ∀ k, k < 3 → _
    intro k hk
    match k, hk with | 0, _ => exact Sl.later HSE.out YB.out HSE.out.1 | 1, _ => exact Sl.later HSH.out YB.out HSH.out.1 | 2, _ => exact Y3
  · show ∀ j, j < 16 → _
    intro j hj
    rw [cell_of_row _ _ _ _ _ _ ((hS1.out.block _ (by omega)).trans X2.out)]
    exact zeroIv 16 j hj
  rintro e Y1 ⟨v, rfl, ho1, hb1⟩
  rw [padP_three E H (le8 m ++ le8 n) (by simp [le8_length])] at ho1
  have hmac : fillL E ++ (fillL H ++ (le8 m ++ le8 n)) = macL E H := by unfold macL; rw [hn, hm]
  rw [hmac] at ho1
  have hml : (macL E H).length ≤ 200000 := by rw [macL_length]; have := fillN_lt E.length; have := fillN_lt H.length; omega
  have hml0 : 0 < (macL E H).length := by rw [macL_length]; omega
  have hmb := macL_bytes hEb hHb
  have hT2 : tagOf K (macL E H) = T := HT2.out
  clear hmac hT HT2
  obtain ⟨D, hD⟩ : ∃ D, D = macL E H := ⟨_, rfl⟩
  rw [← hD] at ho1 hml hml0 hmb hT2
  clear hD
  obtain ⟨dl, hdl⟩ : ∃ dl, dl = D.length := ⟨_, rfl⟩
  rw [← hdl] at hml hml0
  have HDL : Hid _ := hdl
  obtain ⟨gd, cd, rfl, hgd, hcd, hcd2, hgd2, _⟩ : ∃ g cap, v = .slice (some ⟨g, 0, none⟩) dl cap ∧ Y.heap.size ≤ g ∧ dl ≤ cap ∧ cap ≤ 9223372036854775807 ∧ g < Y1.heap.size ∧ v.ownBlock = some g := by
    obtain ⟨_, ⟨_, h0⟩ | ⟨g, cap, cur, rfl, hg, hh, hc, hmx, hs, ht⟩⟩ := ho1
    · omega
    · exact ⟨g, cap, by rw [hdl], hg, by omega, by unfold maxLen at hmx; omega, (Array.getElem?_eq_some_iff.1 hh).1, rfl⟩
  clear hdl
  have KS : Hid (Sl Y1 gd 0 D) := Sl.of_own ho1
  have KB : Hid (Below Y.heap.size Y Y1) := hb1
  have KX : Hid (Below X.heap.size X Y1) := hS1.out.trans (hb1.mono (by have := hS1.out.size; omega))
  have HKP : Hid _ := HPO.out K D gd cd Y1 hk32 hKb hmb (by rw [← HDL.out]; exact hml) (by rw [← HDL.out]; exact hcd) hcd2 KS.out
  rw [hT2, ← HDL.out] at HKP
  have hTl : T.length = 16 := by rw [← hT2]; exact tagOf_len _ _
  clear ho1 hb1 hk32 hT2 hmb HDL KS
  go_wp2_with fail
  refine ⟨⟨⟨_, KX.out⟩, rfl⟩, ?_⟩
  go_wp2_with fail
  refine Calls.mono HKP.out ?_
  rintro e Y2 ⟨rfl, hb2⟩
  have KX2 : Hid (Below X.heap.size X Y2) := KX.out.trans (hb2.mono KX.out.size)
  clear hb2 HKP
  go_wp2_with fail
  refine ⟨⟨⟨_, KX2.out⟩, rfl⟩, ?_⟩
  have Z2 : Hid _ := (KX2.out.block (w.heap.size + 1 + 1) (by omega)).trans X2.out
  have ZB : Hid (Below w.heap.size w Y2) := XB.out.trans (KX2.out.mono (by omega))
  refine wpList_put_row rfl 27 (.tmp 8) (.tmp 32) rfl (w.heap.size + 1 + 1) (Iv .u8 T) rfl rfl _ _ Z2.out (hi16.out T hTl) (by rw [Iv_size, Iv_size, hTl]; simp [zeroL]) (Iv_one _ _) ?_
  intro W9 hP9
  simp only [Act.put]
  have h9 := hP9.here
  have BW9 : Below w.heap.size w W9 := hP9.below _ _ ZB.out (by omega)
  clear hP9 Z2 ZB KX2 KX KB
  have H9 : Hid _ := h9
  have B9 : Hid _ := BW9
  clear h9 BW9
  go_wp2_with fail
  refine last_norm ?_
  clear XB X2 X3 X10 S0 hS1 hgp YB Y3
  go_wp2
  exact bodyPost_ret (v := .agg (Iv .u8 T)) (results_cell_row rfl _ _ _ _ (Iv .u8 T) _ _ rfl H9.out Tryz.underlying27 rfl (hi16.out T hTl)) rfl ⟨rfl, B9.out⟩
end Go.Proofs.YtfipcjchjpihkaaGreatDoor
/- 'l1To32' of thirty-two bytes. -/
namespace Go.Proofs.YtfipcjchjpihkaaGreatDoor
open Go.RowKit
set_option linter.unusedVariables false
theorem infoT32 : (Tryz.prog.info? 25).map (·.size) = some 32 := by kernel_rfl
set_option maxRecDepth 10000 in
set_option maxHeartbeats 2000000 in
theorem l1To32_any (l : List Int) (hl : l.length = 32) (g o c : Nat) (w : World) (hg : g < w.heap.size) (hc : ∀ j, j < 32 → w.cell? ⟨g, o + j, none⟩ = some (.int .u8 (l.getD j 0))) :
    Calls Tryz.prog 33 #[.slice (some ⟨g, o, none⟩) 32 c] w fun e w' => e = .returned (.agg (Iv .u8 l)) ∧ Below w.heap.size w w' := by
  have hzv : ∀ W, (zeroValue 25).run Tryz.prog W = .ok (.agg (Iv .u8 (zeroL 32))) W := (zero_of_info (n := 32) (by kernel_rfl)).1
  have hi32 : Hid (∀ l : List Int, l.length = 32 → (Tryz.prog.info? 25).map (·.size) = some (Iv .u8 l).size) := fun l hl => by rw [Iv_size, hl]; exact infoT32
  have HC : Hid _ := hc
  clear hc
  obtain ⟨W, hW, g0, g1, hs, hb⟩ := alloc2 w (.cells (Iv .u8 (zeroL 32)) 25) (.cells (Iv .u8 (zeroL 32)) 25)
  have R1 : Hid _ := g1
  have R0 : Hid _ := g0
  have HB : Hid _ := hb
  clear g0 g1 hb
  go_enter Tryz.func33, Tryz.ntmps33
  go_wp2_with (refine wpList_put_row rfl 25 _ _ rfl (w.heap.size + 1) (Iv .u8 (zeroL 32)) rfl rfl _ _ R1.out (hi32.out _ (by simp [zeroL])) rfl (Iv_one _ _) ?_)
  intro w1 hP1
  have q1 := hP1.here
  have q0 := (hP1.far w.heap.size (by omega)).trans R0.out
  have qB := hP1.below _ _ HB.out (by omega)
  have qC : ∀ j, j < 32 → w1.cell? ⟨g, o + j, none⟩ = some (.int .u8 (l.getD j 0)) := fun j hj => (qB.cell (p := ⟨g, o + j, none⟩) hg).trans (HC.out j hj)
  clear hP1 R1 R0 HB hW HC
  have Z1 : Hid _ := q1
  have Z0 : Hid _ := q0
  have ZB : Hid _ := qB
  have ZC : Hid _ := qC
  clear q1 q0 qB qC
  go_wp2_with fail
  go_loopw [6] (fun i wr => ∃ k : Nat, k ≤ 32 ∧ i = .int .i64 k ∧ wr.heap[w.heap.size + 1]? = some (.cells (Iv .u8 (fillZ l 32 k)) 25) ∧ wr.heap[w.heap.size]? = some (.cells (Iv .u8 (zeroL 32)) 25) ∧ (∀ j, j < 32 → wr.cell? ⟨g, o + j, none⟩ = some (.int .u8 (l.getD j 0))) ∧ Below w.heap.size w wr) (fun i _ => 32 - (intOf i).toNat)
  case atStart => exact ⟨0, Nat.zero_le _, rfl, Z1.out, Z0.out, ZC.out, ZB.out⟩
  case round =>
    obtain ⟨k, hk, rfl, q1, q0, qL, qB⟩ := hrel
    by_cases hlt : k < 32
    · have cB := qL k hlt
      have cO : ∃ v, wr.cell? ⟨w.heap.size + 1, k, none⟩ = some v := by
        rw [cell_of_row _ _ _ _ _ _ q1]
        exact Iv_some _ _ _ (by rw [fillZ_length _ _ _ hl (by omega)]; omega)
      obtain ⟨v, hv⟩ := cO
      have fO : wr.frozen? ⟨w.heap.size + 1, k, none⟩ = false := frozen_of_row _ _ _ _ _ q1
      have hgd : l.getD k 0 = l[k] := by rw [List.getD_eq_getElem?_getD, List.getElem?_eq_getElem (by omega)]; rfl
      rw [hgd] at cB
      clear hgd
      have Q1 : Hid _ := q1
      have Q0 : Hid _ := q0
      have QL : Hid _ := qL
      have QB : Hid _ := qB
      clear q1 q0 qL qB Z1 Z0 ZB ZC
      go_wp2
      go_roundw
      case rel =>
        refine ⟨k + 1, by omega, by go_num, ?_, ?_, ?_, ?_⟩
        · rw [heap_setCell_same _ _ _ _ _ _ Q1.out, Iv_set]
          unfold fillZ
          exact congrArg (fun z => some (Obj.cells (Iv .u8 z) 25)) (set_fill l 32 k hl hlt 0)
        · rw [heap_setCell_other _ _ _ _ (by simp)]
          exact Q0.out
        · intro j hj
          rw [World.cell?_setCell_other _ _ _ _ (by intro e; cases e; omega)]
          exact QL.out j hj
        · exact QB.out.setCell (p := ⟨w.heap.size + 1, k, none⟩) (by show w.heap.size ≤ w.heap.size + 1; omega) _
      case measure => simp [intOf]; omega
    · obtain rfl : k = 32 := by omega
      rw [fillZ_end l 32 hl] at q1
      have G2 : Hid _ := q1
      have G1 : Hid _ := q0
      have GB : Hid _ := qB
      clear q1 q0 qL qB Z1 Z0 ZB ZC
      go_wp2_with (first
        | refine wpList_load_row rfl 25 _ rfl (w.heap.size + 1) rfl _ (Iv .u8 l) _ _ G2.out Tryz.underlying25 rfl (hi32.out l hl) ?_
        | refine wpList_put_row rfl 25 _ _ rfl w.heap.size (Iv .u8 l) rfl rfl _ _ G1.out (hi32.out l hl) ?hs (Iv_one _ _) ?_)
      case hs => rw [Iv_size, Iv_size, hl]; rfl
      intro W9 hP9
      go_wp2
      exact bodyPost_ret (v := .agg (Iv .u8 l)) (results_cell_row rfl _ _ _ _ (Iv .u8 l) _ _ rfl hP9.here Tryz.underlying25 rfl (hi32.out l hl)) rfl ⟨rfl, hP9.below _ _ GB.out (Nat.le_refl _)⟩
end Go.Proofs.YtfipcjchjpihkaaGreatDoor
/- The model's 'l2Tag'. -/
namespace Go.Proofs.YtfipcjchjpihkaaGreatDoor
open Go.RowKit
set_option linter.unusedVariables false
set_option maxRecDepth 10000 in
set_option maxHeartbeats 2000000 in
theorem l2Tag_any (HPO : Hid (PolOk 82)) (key nonce : List Int) (hk : key.length = 32) (hr : nonce.length = 12) (B : Nat → List Int) (hB : ∀ i, (B i).length = 64) (HC : Hid (ChaOk 79 key nonce B (fun _ => True))) (hBb : ∀ i, Bytes (B i))
    (H E : List Int) (n m : Nat) (hn : H.length = n) (hm : E.length = m) (hn2 : n ≤ 65536) (hm2 : m ≤ 65536) (hHb : Bytes H) (hEb : Bytes E) (hg ho hc eg eo ec : Nat) (w : World) (HSH : Hid (Sl w hg ho H)) (HSE : Hid (Sl w eg eo E))
    (T : List Int) (hT : Hid (tagB B E H = T)) :
    Calls Tryz.prog 64 #[.agg (Iv .u8 key), .agg (Iv .u8 nonce), .slice (some ⟨hg, ho, none⟩) n hc, .slice (some ⟨eg, eo, none⟩) m ec] w fun e w' => e = .returned (.agg (Iv .u8 T)) ∧ Below w.heap.size w w' := by
  have hzv := zeroE16
  have hzw := zeroE64
  have hi32 : Hid ((Tryz.prog.info? 25).map (·.size) = some (Iv .u8 key).size) := by show _ = _; rw [Iv_size, hk]; exact infoE32
  have hi12 : Hid ((Tryz.prog.info? 78).map (·.size) = some (Iv .u8 nonce).size) := by show _ = _; rw [Iv_size, hr]; exact infoE12
  have hi64 : Hid (∀ l : List Int, l.length = 64 → (Tryz.prog.info? 88).map (·.size) = some (Iv .u8 l).size) := fun l hl => by rw [Iv_size, hl]; exact infoE64
  have hi16 : Hid (∀ l : List Int, l.length = 16 → (Tryz.prog.info? 27).map (·.size) = some (Iv .u8 l).size) := fun l hl => by rw [Iv_size, hl]; exact infoE16
  have hz64 : Hid (∀ l : List Int, l.length = 64 → (Iv .u8 (zeroL 64)).size = (Iv .u8 l).size) := fun l hl => by rw [Iv_size, Iv_size, hl]; simp [zeroL]
  have hz16 : Hid (∀ l : List Int, l.length = 16 → (Iv .u8 (zeroL 16)).size = (Iv .u8 l).size) := fun l hl => by rw [Iv_size, Iv_size, hl]; simp [zeroL]
  obtain ⟨W, hW, g0, g1, g2, hs, hBW⟩ := alloc3 w (.cells (Iv .u8 key) 25) (.cells (Iv .u8 nonce) 78) (.cells (Iv .u8 (zeroL 16)) 27)
  have HW : Hid _ := hW
  have G0 : Hid _ := g0
  have G1 : Hid _ := g1
  have G2 : Hid _ := g2
  have GB : Hid _ := hBW
  clear hW g0 g1 g2 hBW
  go_enter Tryz.func64, Tryz.ntmps64
  go_wp2_with (rw [HW.out]; refine stop_here ?_)
  refine hid_mk ?_
  clear hzv HW
  go_wp2_with (with_reducible refine wpList_id ?_; first
    | refine wpList_load_row rfl 25 _ rfl w.heap.size rfl _ (Iv .u8 key) _ _ G0.out Tryz.underlying25 rfl hi32.out ?_
    | refine wpList_load_row rfl 78 _ rfl (w.heap.size + 1) rfl _ (Iv .u8 nonce) _ _ G1.out Tryz.underlying78 rfl hi12.out ?_)
  refine (HC.out 0 W (by decide) trivial).mono ?_
  rintro e w3 ⟨rfl, hb3⟩
  have hs3 := hb3.size
  have K3 : Hid ((w3.alloc (.cells (Iv .u8 (zeroL 64)) 88)).heap[w3.heap.size]? = some (.cells (Iv .u8 (zeroL 64)) 88)) := heap_alloc_new _ _
  go_wp2_with (with_reducible refine wpList_id ?_; refine wpList_put_row rfl 88 _ _ rfl w3.heap.size (Iv .u8 (B 0)) rfl rfl _ _ K3.out (hi64.out _ (hB _)) (hz64.out _ (hB _)) (Iv_one _ _) (fun X hX => stop_here ?_))
  refine hid_mk ?_
  have xs : X.heap.size = w3.heap.size + 1 := by rw [hX.size]; simp
  have X10 : Hid (X.heap[w3.heap.size]? = some (.cells (Iv .u8 (B 0)) 88)) := hX.here
  have X2 : Hid (X.heap[w.heap.size + 1 + 1]? = some (.cells (Iv .u8 (zeroL 16)) 27)) := (hX.far _ (by omega)).trans ((heap_alloc_old _ _ (by omega)).trans ((hb3.block _ (by omega)).trans G2.out))
  have XB : Hid (Below w.heap.size w X) := hX.below _ _ ((GB.out.trans (hb3.mono (by omega))).alloc (by omega) _) (by omega)
  obtain ⟨gb, egb⟩ : ∃ x, x = w3.heap.size := ⟨_, rfl⟩
  rw [← egb] at X10 xs hs3 ⊢
  clear egb hX hb3 K3 G0 G1 G2 GB hzw
  have XE : Hid _ := Sl.later HSE.out XB.out HSE.out.1
  have XH : Hid _ := Sl.later HSH.out XB.out HSH.out.1
  have hxw := XB.out.size
  go_wp2_with fail
  refine (l2Fill_any E m hm (by omega) eg eo ec X XE).mono ?_
  rintro e w4 ⟨v4, rfl, o4, n4, b4⟩
  obtain ⟨g4, c4, rfl, hg4, _, _, hl4, _⟩ := own_form o4 n4
  have S4 : Hid _ := Sl.of_own o4
  have B4 : Hid (Below X.heap.size X w4) := b4
  have XH4 : Hid _ := Sl.later XH.out b4 XH.out.1
  clear o4 n4 b4
  rw [fillL_length, hm]
  go_wp2_with fail
  refine (l2Fill_any H n hn (by omega) hg ho hc w4 XH4).mono ?_
  rintro e w5 ⟨v5, rfl, o5, n5, b5⟩
  obtain ⟨g5, c5, rfl, hg5, _, _, hl5, _⟩ := own_form o5 n5
  have S5 : Hid _ := Sl.of_own o5
  have S4' : Hid _ := Sl.later S4.out b5 hl4
  have B5 : Hid (Below X.heap.size X w5) := B4.out.trans (b5.mono B4.out.size)
  clear o5 n5 b5 S4 B4 XH4
  rw [fillL_length, hn]
  go_wp2_with fail
  have hfm := fillN_lt m
  have hfn := fillN_lt n
  refine (join_own g4 0 c4 g5 0 c5 (fillL E) (fillL H) (m + fillN m) (n + fillN n) (by rw [fillL_length, hm]) (by rw [fillL_length, hn]) (by omega) w5 S4'.out S5.out).mono ?_
  rintro e w6 ⟨v6, rfl, o6, b6⟩
  have O6 : Hid (Own .u8 5 X.heap.size w6 v6 (fillL E ++ fillL H)) := Own.mono o6 B5.out.size
  have B6 : Hid (Below X.heap.size X w6) := B5.out.trans (b6.mono B5.out.size)
  clear o6 b6 S4' S5 B5
  go_wp2_with fail
  refine (l2Eight_any m (by omega) w6).mono ?_
  rintro e w7 ⟨v7, rfl, o7, b7⟩
  obtain ⟨g7, c7, rfl, hg7, _, _, hl7, _⟩ := own_full o7 (by rw [le8_length]; decide)
  have S7 : Hid _ := Sl.of_own o7
  have O7 : Hid _ := Own.later O6.out b7
  have B7 : Hid (Below X.heap.size X w7) := B6.out.trans (b7.mono B6.out.size)
  have hs7 := B7.out.size
  clear o7 b7 O6 B6
  rw [le8_length]
  have hlF : Hid ((fillL E ++ fillL H).length ≤ 200000) := by show _ ≤ _; rw [List.length_append, fillL_length, fillL_length, hm, hn]; omega
  go_wp2_with (at_builtin; refine extend_law .u8 22 5 1 Tryz.underlying22 infoE8 (by decide) rfl (.tmp 19) (.tmp 22) rfl X.heap.size X w7 _ (fillL E ++ fillL H) g7 0 8 c7 (le8 m) (le8_length m) rfl rfl O7.out B7.out hs7 (by have := hlF.out; omega) (fun j hj => S7.out.2 j (by rw [le8_length]; exact hj)) ?_; intro v8 w8 o8 b8 _ _; refine stop_here ?_)
  refine hid_mk ?_
  have O8 : Hid _ := o8
  have B8 : Hid _ := b8
  have hs8 := b8.size
  clear o8 b8 O7 B7 S7
  go_wp2_with fail
  refine (l2Eight_any n (by omega) w8).mono ?_
  rintro e w9 ⟨v9, rfl, o9, b9⟩
  obtain ⟨g9, c9, rfl, hg9, _, _, hl9, _⟩ := own_full o9 (by rw [le8_length]; decide)
  have S9 : Hid _ := Sl.of_own o9
  have O9 : Hid _ := Own.later O8.out b9
  have B9 : Hid (Below X.heap.size X w9) := B8.out.trans (b9.mono B8.out.size)
  have hs9 := B9.out.size
  clear o9 b9 O8 B8
  rw [le8_length]
  have hlG : Hid ((fillL E ++ fillL H ++ le8 m).length ≤ 200100) := by show _ ≤ _; rw [List.length_append, le8_length]; have := hlF.out; omega
  go_wp2_with (at_builtin; refine extend_law .u8 22 5 1 Tryz.underlying22 infoE8 (by decide) rfl (.tmp 24) (.tmp 27) rfl X.heap.size X w9 _ (fillL E ++ fillL H ++ le8 m) g9 0 8 c9 (le8 n) (le8_length n) rfl rfl O9.out B9.out hs9 (by have := hlG.out; omega) (fun j hj => S9.out.2 j (by rw [le8_length]; exact hj)) ?_; intro v10 w10 o10 b10 _ _; refine stop_here ?_)
  refine hid_mk ?_
  have hmac : fillL E ++ fillL H ++ le8 m ++ le8 n = macL E H := by unfold macL; rw [hn, hm]; simp [List.append_assoc]
  rw [hmac] at o10
  have hml : (macL E H).length ≤ 200000 := by rw [macL_length]; have := fillN_lt E.length; have := fillN_lt H.length; omega
  have hml0 : 0 < (macL E H).length := by rw [macL_length]; omega
  have hmb := macL_bytes hEb hHb
  obtain ⟨K, eK⟩ : ∃ K, K = (B 0).take 32 := ⟨_, rfl⟩
  have hk32 : K.length = 32 := by rw [eK, List.length_take, hB]; rfl
  have hKb : Bytes K := by rw [eK]; exact bytes_take (hBb 0) 32
  have hT2 : tagOf K (macL E H) = T := by rw [eK]; exact hT.out
  have hTl : T.length = 16 := by rw [← hT2]; exact tagOf_len _ _
  have SK : Hid (Sl w10 gb 0 K) := by show Sl _ _ _ _; rw [eK]; exact Sl.take (Sl.of_row ((b10.block gb (by omega)).trans X10.out)) 32
  clear hmac hT eK
  obtain ⟨D, hD⟩ : ∃ D, D = macL E H := ⟨_, rfl⟩
  rw [← hD] at o10 hml hml0 hmb hT2
  clear hD
  obtain ⟨gd, cd, rfl, hgd, hcd, hcd2, hgd2, _⟩ := own_full o10 hml0
  have SD : Hid _ := Sl.of_own o10
  have B10 : Hid _ := b10
  have hs10 := b10.size
  obtain ⟨dl, hdl⟩ : ∃ dl, dl = D.length := ⟨_, rfl⟩
  rw [← hdl] at hml hml0 hcd ⊢
  have HDL : Hid _ := hdl
  clear hdl o10 b10 O9 B9 S9
  go_wp2_with fail
  refine (l1To32_any K hk32 gb 0 64 w10 SK.out.1 (fun j hj => SK.out.2 j (by rw [hk32]; exact hj))).mono ?_
  rintro e w11 ⟨rfl, b11⟩
  have SD11 : Hid (Sl w11 gd 0 D) := Sl.later SD.out b11 SD.out.1
  have B11 : Hid (Below X.heap.size X w11) := B10.out.trans (b11.mono B10.out.size)
  clear b11 SD B10 SK
  have HKP : Hid _ := HPO.out K D gd cd w11 hk32 hKb hmb (by rw [← HDL.out]; exact hml) (by rw [← HDL.out]; exact hcd) hcd2 SD11.out
  rw [hT2, ← HDL.out] at HKP
  clear hT2 hmb HDL SD11
  go_wp2_with fail
  refine Calls.mono HKP.out ?_
  rintro e w12 ⟨rfl, b12⟩
  have B12 : Below X.heap.size X w12 := B11.out.trans (b12.mono B11.out.size)
  have Z2 : Hid _ := (B12.block (w.heap.size + 1 + 1) (by omega)).trans X2.out
  have ZB : Hid (Below w.heap.size w w12) := XB.out.trans (B12.mono (by omega))
  clear B12 b12 HKP
  go_wp2_with (with_reducible refine wpList_id ?_; refine wpList_put_row rfl 27 _ _ rfl (w.heap.size + 1 + 1) (Iv .u8 T) rfl rfl _ _ Z2.out (hi16.out T hTl) (hz16.out T hTl) (Iv_one _ _) (fun W9 hP9 => stop_here ?_))
  refine hid_mk ?_
  have H9 : Hid _ := hP9.here
  have BW9 : Hid (Below w.heap.size w W9) := hP9.below _ _ ZB.out (by omega)
  clear hP9 Z2 ZB X2 X10 XB XE XH
  go_wp2
  exact bodyPost_ret (v := .agg (Iv .u8 T)) (results_cell_row rfl _ _ _ _ (Iv .u8 T) _ _ rfl H9.out Tryz.underlying27 rfl (hi16.out T hTl)) rfl ⟨rfl, BW9.out⟩
end Go.Proofs.YtfipcjchjpihkaaGreatDoor
