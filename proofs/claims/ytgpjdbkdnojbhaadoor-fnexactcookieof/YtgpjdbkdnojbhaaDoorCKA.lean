import Derived.Test.YtgpjdbkdnojbhaaDoorRows
import Derived.Test.YtgpjdbkdnojbhaaDoorBase
import Derived.Test.YtgpjdbkdnojbhaaDoorNum
import Derived.Test.YtgpjdbkdnojbhaaDoorMid
import Derived.Test.YtgpjdbkdnojbhaaDoorLate
import Derived.Test.YtgpjdbkdnojbhaaDoorToA16
import Derived.Test.YtgpjdbkdnojbhaaDoorQuiet
import Derived.Test.YtgpjdbkdnojbhaaDoorOwn3
import Derived.Test.YtgpjdbkdnojbhaaDoorCopy
import Derived.Test.YtgpjdbkdnojbhaaDoorBY0
namespace Go.Proofs.YtgpjdbkdnojbhaaDoor
open Go.RowKit
set_option linter.unusedVariables false

/-- 'putLittle(out, value)': out lies in a row of bytes. -/
theorem putLittle16_any (g off n cap : Nat) (te : TypeId) (l : List Int) (x : Int) (w : World)
    (hg : w.heap[g]? = some (.cells (Iv .u8 l) te)) (hl : off + n ≤ l.length) (hn : n ≤ 2) (hx : 0 ≤ x) :
    Calls Tryd.prog 82 #[.slice (some ⟨g, off, none⟩) n cap, .int .u16 x] w fun e w' =>
      e = .returned (.tuple #[]) ∧ w' = w.setRow g (Iv .u8 (putFrom l off (fun i => x / 256 ^ i % 256) n)) := by
  go_enter Tryd.func82, Tryd.ntmps82
  go_wp2
  go_loopw [7] (fun i wr => ∃ k : Nat, k ≤ n ∧ i = .int .i64 k ∧ wr = w.setRow g (Iv .u8 (putFrom l off (fun i => x / 256 ^ i % 256) k))) (fun i _ => n - (intOf i).toNat)
  case atStart =>
    refine ⟨0, Nat.zero_le _, rfl, ?_⟩
    rw [putFrom_zero, setRow_self w g _ _ _ hg]
  case round =>
    obtain ⟨k, hk, rfl, rfl⟩ := hrel
    by_cases hlt : k < n
    · have ho : ∃ v, (w.setRow g (Iv .u8 (putFrom l off (fun i => x / 256 ^ i % 256) k))).cell? ⟨g, off + k, none⟩ = some v := by
        rw [cell_setRow_same _ _ _ _ _ _ _ hg]
        exact Iv_some _ _ _ (by rw [putFrom_length _ _ _ _ (by omega)]; omega)
      obtain ⟨v, hv⟩ := ho
      have hf : (w.setRow g (Iv .u8 (putFrom l off (fun i => x / 256 ^ i % 256) k))).frozen? ⟨g, off + k, none⟩ = false := by rw [frozen_setRow]; exact frozen_of_row _ _ _ _ _ hg
      go_wp2
      go_roundw
      case rel => exact ⟨k + 1, by omega, by go_num, by rw [setCell_setRow, Iv_set, pow8, putFrom_step l off (fun i => x / 256 ^ i % 256) k (by omega)]⟩
      case measure => simp [intOf]; omega
    · obtain rfl : k = n := by omega
      go_wp2
      go_end0
      exact ⟨rfl, rfl⟩

end Go.Proofs.YtgpjdbkdnojbhaaDoor
namespace Go.Proofs.YtgpjdbkdnojbhaaDoor
open Go.RowKit
set_option linter.unusedVariables false

def revF (l : List Int) (off n k i : Nat) : Int := if off ≤ i ∧ i < off + n ∧ (i < off + k ∨ off + n - k ≤ i) then l.getD (2 * off + n - 1 - i) 0 else l.getD i 0
def revK (l : List Int) (off n k : Nat) : List Int := (List.range l.length).map (revF l off n k)
theorem revK_length (l : List Int) (off n k : Nat) : (revK l off n k).length = l.length := by simp [revK]
theorem revK_get (l : List Int) (off n k i : Nat) (hi : i < l.length) : (revK l off n k).getD i 0 = revF l off n k i := by simp [revK, hi]
theorem revK_zero (l : List Int) (off n : Nat) : revK l off n 0 = l := by
  apply List.ext_getElem
  · simp [revK]
  · intro i h1 h2
    simp only [revK, List.getElem_map, List.getElem_range, revF]
    rw [if_neg (by omega)]
    simp [h2]
theorem revK_step (l : List Int) (off n k : Nat) (h : off + n ≤ l.length) (hk : k + 1 + k < n) :
    ((revK l off n k).set (off + k) (l.getD (off + (n - 1 - k)) 0)).set (off + (n - 1 - k)) (l.getD (off + k) 0) = revK l off n (k + 1) := by
  apply List.ext_getElem
  · simp [revK]
  · intro i h1 h2
    simp only [List.getElem_set, revK, List.getElem_map, List.getElem_range, revF]
    by_cases e1 : off + (n - 1 - k) = i
    · rw [if_pos e1, if_pos (by omega)]
      congr 1
      omega
    · rw [if_neg e1]
      by_cases e2 : off + k = i
      · rw [if_pos e2, if_pos (by omega)]
        congr 1
        omega
      · rw [if_neg e2]
        by_cases e3 : off ≤ i ∧ i < off + n ∧ (i < off + k ∨ off + n - k ≤ i)
        · rw [if_pos e3, if_pos (by omega)]
        · rw [if_neg e3, if_neg (by omega)]
theorem rev_put (l : List Int) (off n : Nat) (f : Nat → Int) (h : off + n ≤ l.length) (hn : n % 2 = 0) : revK (putFrom l off f n) off n (n / 2) = putFrom l off (fun i => f (n - 1 - i)) n := by
  have hpl := putFrom_length l off f n h
  have hg : ∀ i, i < l.length → (putFrom l off f n).getD i 0 = if off ≤ i ∧ i < off + n then f (i - off) else l.getD i 0 := by
    intro i hi
    rw [List.getD_eq_getElem?_getD, putFrom_get _ _ _ _ _ h]
    split
    · rfl
    · rw [List.getD_eq_getElem?_getD]
  apply List.ext_getElem?
  intro i
  rw [putFrom_get _ _ _ _ _ h]
  by_cases hi : i < l.length
  · simp only [revK, List.getElem?_map, List.getElem?_range (show i < (putFrom l off f n).length by omega), Option.map_some, revF]
    by_cases e : off ≤ i ∧ i < off + n
    · have e2 : off ≤ i ∧ i < off + n ∧ (i < off + n / 2 ∨ off + n - n / 2 ≤ i) := by omega
      rw [if_pos e2, if_pos e, hg _ (by omega), if_pos (by omega)]
      congr 2
      omega
    · have e2 : ¬ (off ≤ i ∧ i < off + n ∧ (i < off + n / 2 ∨ off + n - n / 2 ≤ i)) := by omega
      rw [if_neg e2, if_neg e, hg i hi, if_neg e]
      simp [hi]
  · rw [if_neg (by omega), List.getElem?_eq_none (show (revK (putFrom l off f n) off n (n / 2)).length ≤ i by rw [revK_length]; omega), List.getElem?_eq_none (show l.length ≤ i by omega)]

theorem rev_late {W W0 : World} {g p : Nat} {v : Value} (h : ∃ cs, W.drew = W0.drew.setRow g cs) : ∃ cs, (W.setCell ⟨g, p, none⟩ v).drew = W0.drew.setRow g cs := by
  obtain ⟨cs, h⟩ := h
  refine ⟨cs.setIfInBounds p v, ?_⟩
  rw [← setCell_setRow, ← h]
  rfl
set_option maxHeartbeats 1000000 in
theorem reverse_any (g off n cap : Nat) (te : TypeId) (l : List Int) (w : World)
    (hg : w.heap[g]? = some (.cells (Iv .u8 l) te)) (hl : off + n ≤ l.length) (hn : n ≤ 1000000) :
    Calls Tryd.prog 83 #[.slice (some ⟨g, off, none⟩) n cap] w fun e w' =>
      e = .returned (.tuple #[]) ∧ ∃ d, w' = (w.setRow g (Iv .u8 (revK l off n (n / 2)))).drewN d := by
  go_enter Tryd.func83, Tryd.ntmps83
  go_wp2
  go_loopw [2, 3] (fun i j wr => ∃ (k d : Nat) (jz : Int), k ≤ n / 2 ∧ jz = (n : Int) - 1 - k ∧ i = .int .i64 k ∧ j = .int .i64 jz ∧ wr = (w.setRow g (Iv .u8 (revK l off n k))).drewN d) (fun i _ _ => n - (intOf i).toNat)
  case atStart =>
    refine ⟨0, 0, _, Nat.zero_le _, rfl, rfl, by simp, ?_⟩
    rw [revK_zero, setRow_self w g _ _ _ hg]
    rfl
  case round =>
    obtain ⟨k, d, jz, hk, hjz, rfl, rfl, rfl⟩ := hrel
    by_cases hlt : k + 1 + k < n
    · obtain ⟨jn, rfl⟩ : ∃ jn : Nat, jz = jn := ⟨n - 1 - k, by omega⟩
      have hjn : jn = n - 1 - k := by omega
      have hcond : (k : Int) < (jn : Int) := by omega
      have hjn' : jn < n := by omega
      have hkn' : k < n := by omega
      clear hjz
      have hgW : (w.setRow g (Iv .u8 (revK l off n k))).heap[g]? = some (.cells (Iv .u8 (revK l off n k)) te) := setRow_heap _ _ _ _ _ _ hg
      have hc1 : (w.setRow g (Iv .u8 (revK l off n k))).cell? ⟨g, off + k, none⟩ = some (.int .u8 (l.getD (off + k) 0)) := by
        have hb : off + k < l.length := by omega
        rw [cell_of_row _ _ _ _ _ _ hgW, Iv_get .u8 _ _ (by rw [revK_length]; exact hb)]
        simp only [revK, List.getElem_map, List.getElem_range, revF]
        rw [if_neg (by omega)]
      have hc2 : (w.setRow g (Iv .u8 (revK l off n k))).cell? ⟨g, off + jn, none⟩ = some (.int .u8 (l.getD (off + jn) 0)) := by
        have hb : off + jn < l.length := by omega
        rw [cell_of_row _ _ _ _ _ _ hgW, Iv_get .u8 _ _ (by rw [revK_length]; exact hb)]
        simp only [revK, List.getElem_map, List.getElem_range, revF]
        rw [if_neg (by omega)]
      have HS : Hid (((w.setRow g (Iv .u8 (revK l off n k))).setCell ⟨g, off + k, none⟩ (.int .u8 (l.getD (off + jn) 0))).setCell ⟨g, off + jn, none⟩ (.int .u8 (l.getD (off + k) 0)) = w.setRow g (Iv .u8 (revK l off n (k + 1)))) := by
        show _ = _
        rw [setCell_setRow, setCell_setRow, Iv_set, Iv_set]
        subst hjn
        rw [revK_step l off n k hl hlt]
      generalize hX : l.getD (off + k) 0 = X at hc1 hc2 HS
      generalize hY : l.getD (off + jn) 0 = Y at hc1 hc2 HS
      have HH : Hid ((w.setRow g (Iv .u8 (revK l off n k))).heap[g]? = some (.cells (Iv .u8 (revK l off n k)) te)) := hgW
      generalize hW0 : w.setRow g (Iv .u8 (revK l off n k)) = W0 at hc1 hc2 HS HH hgW ⊢
      have HW0 : Hid _ := hW0
      clear hW0 hgW hX hY
      have hjz : (jn : Int) = (n : Int) - 1 - k := by omega
      have Hjz : Hid _ := hjz
      clear hjn hjz
      have f1 : (W0.drewN d).frozen? ⟨g, off + k, none⟩ = false := frozen_of_row (W0.drewN d) _ _ _ _ HH.out
      have f2 : (W0.drewN d).frozen? ⟨g, off + jn, none⟩ = false := frozen_of_row (W0.drewN d) _ _ _ _ HH.out
      have c1 : (W0.drewN d).cell? ⟨g, off + k, none⟩ = some (.int .u8 X) := hc1
      have c2 : (W0.drewN d).cell? ⟨g, off + jn, none⟩ = some (.int .u8 Y) := hc2
      have HE : Hid (∀ a b : Value, ((W0.drewN d).drew.setCell ⟨g, off + k, none⟩ a).setCell ⟨g, off + jn, none⟩ b = ((W0.setCell ⟨g, off + k, none⟩ a).setCell ⟨g, off + jn, none⟩ b).drewN (d + 1)) := fun a b => rfl
      clear hc1 hc2
      have HHd : Hid ((W0.drewN d).heap[g]? = some (.cells (Iv .u8 (revK l off n k)) te)) := HH.out
      generalize W0.drewN d = W1 at c1 c2 f1 f2 HE HHd ⊢
      go_wp2
      have S0 : Hid (∃ cs, W1.drew = W1.drew.setRow g cs) := ⟨_, (setRow_self W1.drew g _ te (0, 0) HHd.out).symm⟩
      refine wp_region_late 13 (fun w' => ∃ cs, w' = W1.drew.setRow g cs) [(.held, [0, 1, 2, 3, 4, 5, 6, 8, 9, 10]), (.exact, [7, 11]), (.held, [12]), (.tail, [13]), (.held, [14]), (.tail, [15])] (by kernel_rfl) (by kernel_rfl) S0.out ?_
      simp only [wpRuns, opsAt_cons, opsAt_nil, nthOp_zero, nthOp_succ, List.cons_append, List.nil_append]
      repeat (go_big_quiet_step (fail))
      refine wpQuiet_nil ?_
      repeat (go_big_quiet_step (fail))
      refine wpQuiet_nil ?_
      repeat (go_big_quiet_step (fail))
      refine wpQuiet_nil ?_
      go_wp2_with fail
      refine ⟨rev_late S0.out, ?_⟩
      repeat (go_big_quiet_step (fail))
      refine wpQuiet_nil ?_
      go_wp2_with fail
      refine ⟨rev_late (rev_late S0.out), calm_normal ?_⟩
      go_wp2
      go_roundw
      case rel =>
        refine ⟨k + 1, d + 1, (jn : Int) - 1, by omega, by have := Hjz.out; omega, by go_num, rfl, ?_⟩
        have h1 := HE.out (.int .u8 Y) (.int .u8 X)
        rw [HS.out] at h1
        exact h1
      case measure => simp [intOf]; omega
    · have hcond : ¬ ((k : Int) < jz) := by omega
      obtain rfl : k = n / 2 := by omega
      clear hjz
      go_wp2
      go_end0
      exact ⟨rfl, d, rfl⟩
end Go.Proofs.YtgpjdbkdnojbhaaDoor
namespace Go.Proofs.YtgpjdbkdnojbhaaDoor
open Go.RowKit
set_option linter.unusedVariables false
set_option maxHeartbeats 1000000 in
theorem putBig16_any (g off n cap : Nat) (te : TypeId) (l : List Int) (x : Int) (w : World)
    (hg : w.heap[g]? = some (.cells (Iv .u8 l) te)) (hl : off + n ≤ l.length) (hn : n ≤ 2) (h2 : n % 2 = 0) (hx : 0 ≤ x) :
    Calls Tryd.prog 70 #[.slice (some ⟨g, off, none⟩) n cap, .int .u16 x] w fun e w' =>
      e = .returned (.tuple #[]) ∧ Put w g (Iv .u8 (putFrom l off (fun i => x / 256 ^ (n - 1 - i) % 256) n)) te w' := by
  have H2 : Hid (n % 2 = 0) := h2
  clear h2
  go_enter Tryd.func70, Tryd.ntmps70
  go_wp2_with fail
  refine (putLittle16_any g off n cap te l x w hg hl hn hx).mono ?_
  rintro e w1 ⟨rfl, hw1⟩
  have hg1 : w1.heap[g]? = some (.cells (Iv .u8 (putFrom l off (fun i => x / 256 ^ i % 256) n)) te) := by rw [hw1]; exact setRow_heap _ _ _ _ _ _ hg
  have HW1 : Hid _ := hw1
  clear hw1
  go_wp2_with fail
  refine (reverse_any g off n cap te _ w1 hg1 (by rw [putFrom_length _ _ _ _ hl]; exact hl) (by omega)).mono ?_
  rintro e w2 ⟨rfl, d, hw2⟩
  have HW2 : Hid _ := hw2
  clear hw2
  go_wp2
  go_end0
  refine ⟨rfl, ?_⟩
  rw [HW2.out, HW1.out, setRow_setRow, rev_put l off n _ hl H2.out]
  have := put_setRow hg (Iv .u8 (putFrom l off (fun i => x / 256 ^ (n - 1 - i) % 256) n))
  exact ⟨this.here, this.far, this.size, fun B a hb hB => below_drews (this.below B a hb hB) d⟩
end Go.Proofs.YtgpjdbkdnojbhaaDoor
namespace Go.Proofs.YtgpjdbkdnojbhaaDoor
open Go.RowKit
set_option linter.unusedVariables false

def SrcL (v : Bool) (l : List Int) (p : Int) : List Value := Value.bool v :: (l.map (Value.int .u8) ++ [Value.int .u16 p])
def SrcZ (v : Bool) : List Value := SrcL v (List.replicate 16 0) 0
theorem SrcL_length (v : Bool) (l : List Int) (p : Int) (hl : l.length = 16) : (SrcL v l p).length = 18 := by simp [SrcL, hl]
theorem SrcL_v6 (v : Bool) (l : List Int) (p : Int) : (SrcL v l p).toArray[0]? = some (.bool v) := by simp [SrcL]
theorem SrcL_addr (v : Bool) (l : List Int) (p : Int) (hl : l.length = 16) (i : Nat) (hi : i < 16) : (SrcL v l p).toArray[1 + i]? = some (.int .u8 (l.getD i 0)) := by
  rw [Nat.add_comm]
  simp [SrcL, hl, hi, List.getElem?_append]
theorem SrcL_port (v : Bool) (l : List Int) (p : Int) (hl : l.length = 16) : (SrcL v l p).toArray[17]? = some (.int .u16 p) := by
  simp [SrcL, hl]
theorem SrcL_one (v : Bool) (l : List Int) (p : Int) : (SrcL v l p).toArray.all (·.oneCell') = true := by simp [SrcL, Value.oneCell']
theorem SrcL_mid (v : Bool) (l : List Int) (p : Int) (hl : l.length = 16) : ((SrcL v l p).drop 1).take 16 = l.map (Value.int .u8) := by simp [SrcL, ← hl]
theorem infoSrc : (Tryd.prog.info? 48).map (·.size) = some 18 := by kernel_rfl
theorem infoSrcL : (Tryd.prog.info? 45).map (·.size) = some 18 := by kernel_rfl

set_option maxHeartbeats 1000000 in
theorem toSource_any (v : Bool) (l : List Int) (p : Int) (hl : l.length = 16) (w : World) :
    Calls Tryd.prog 33 #[.agg (SrcL v l p).toArray] w fun e w' => e = .returned (.agg (SrcL v l p).toArray) ∧ Below w.heap.size w w' := by
  have hv := SrcL_v6 v l p
  have hp := SrcL_port v l p hl
  have hz : (SrcZ false) = [Value.bool false, .int .u8 0, .int .u8 0, .int .u8 0, .int .u8 0, .int .u8 0, .int .u8 0, .int .u8 0, .int .u8 0, .int .u8 0, .int .u8 0, .int .u8 0, .int .u8 0, .int .u8 0, .int .u8 0, .int .u8 0, .int .u8 0, .int .u16 0] := rfl
  have hy : (SrcZ v) = [Value.bool v, .int .u8 0, .int .u8 0, .int .u8 0, .int .u8 0, .int .u8 0, .int .u8 0, .int .u8 0, .int .u8 0, .int .u8 0, .int .u8 0, .int .u8 0, .int .u8 0, .int .u8 0, .int .u8 0, .int .u8 0, .int .u8 0, .int .u16 0] := rfl
  have Hz : Hid _ := hz
  have Hy : Hid _ := hy
  clear hz hy
  go_enter Tryd.func33, Tryd.ntmps33
  go_wp2_with (refine wpList_load_mid rfl 29 _ rfl w.heap.size 1 rfl (l.map (Value.int .u8)) _ ?hc Tryd.underlying29 rfl ?hi ?_)
  case hc =>
    rw [← SrcL_mid v l p hl]
    refine range_row (t := 45) (fr := (0, 0)) ?_ 1 16
    simp only [heapAt, World.size_alloc]; (repeat (first | rw [if_neg (by omega)] | rw [if_pos (by omega)])); try rfl
  case hi => rw [List.length_map, hl]; exact infoA16
  rw [← Hz.out, ← Hy.out]
  obtain ⟨W, hW, h0, h1, h2, hs, hb⟩ := alloc3 w (.cells (SrcL v l p).toArray 45) (.cells (SrcZ false).toArray 48) (.cells (SrcZ v).toArray 48)
  rw [hW]
  clear hW
  refine (toByteA16_any l hl _).mono ?_
  rintro e w1 ⟨rfl, hb1⟩
  have H2 : Hid (w1.heap[w.heap.size + 1 + 1]? = some (.cells (SrcZ v).toArray 48)) := (hb1.block _ (by omega)).trans h2
  have H0 : Hid (w1.heap[w.heap.size]? = some (.cells (SrcL v l p).toArray 45)) := (hb1.block _ (by omega)).trans h0
  have H1 : Hid (w1.heap[w.heap.size + 1]? = some (.cells (SrcZ false).toArray 48)) := (hb1.block _ (by omega)).trans h1
  have HB : Hid (Below w.heap.size w w1) := hb.trans (hb1.mono (by omega))
  clear h0 h1 h2 hb1
  go_wp2_with (refine wpList_put_part rfl 29 _ _ rfl (w.heap.size + 1 + 1) 1 (l.map (Value.int .u8)) rfl rfl (SrcZ v) 48 H2.out (SrcL v l 0) ?hi ?hf ?h1 ?hn ?_)
  case hi => rw [List.length_map, hl]; exact infoA16
  case hf => simp [SrcZ, SrcL, hl]
  case hn => simp [SrcZ, SrcL, hl]
  case h1 => simp [Value.oneCell']
  intro W2 hP
  have c0 : W2.cell? ⟨w.heap.size, 17, none⟩ = some (.int .u16 p) := by rw [cell_of_row _ _ _ _ _ _ ((hP.far _ (by omega)).trans H0.out)]; exact hp
  have c2 : W2.cell? ⟨w.heap.size + 1 + 1, 17, none⟩ = some (.int .u16 0) := by rw [cell_of_row _ _ _ _ _ _ hP.here]; exact SrcL_port v l 0 hl
  have f2 : W2.frozen? ⟨w.heap.size + 1 + 1, 17, none⟩ = false := frozen_of_row _ _ _ _ _ hP.here
  have hset : (SrcL v l 0).toArray.setIfInBounds 17 (.int .u16 p) = (SrcL v l p).toArray := by
    simp [SrcL, hl]
  have R2 : Hid ((W2.setCell ⟨w.heap.size + 1 + 1, 17, none⟩ (.int .u16 p)).heap[w.heap.size + 1 + 1]? = some (.cells (SrcL v l p).toArray 48)) := by
    show _ = _
    rw [heap_setCell_same _ _ _ _ _ _ hP.here, hset]
  have R1 : Hid ((W2.setCell ⟨w.heap.size + 1 + 1, 17, none⟩ (.int .u16 p)).heap[w.heap.size + 1]? = some (.cells (SrcZ false).toArray 48)) := by
    show _ = _
    rw [heap_setCell_other _ _ _ _ (by simp), hP.far _ (by omega)]
    exact H1.out
  have RB : Hid (Below w.heap.size w (W2.setCell ⟨w.heap.size + 1 + 1, 17, none⟩ (.int .u16 p))) := by
    have := hP.below _ _ HB.out (by omega)
    exact this.setCell (p := ⟨w.heap.size + 1 + 1, 17, none⟩) (by show w.heap.size ≤ w.heap.size + 1 + 1; omega) _
  clear hset
  go_wp2_with (first
    | refine wpList_load_row rfl 48 _ rfl (w.heap.size + 1 + 1) rfl _ (SrcL v l p).toArray _ _ R2.out Tryd.underlying48 rfl ?hi ?_
    | refine wpList_put_row rfl 48 _ _ rfl (w.heap.size + 1) (SrcL v l p).toArray rfl rfl _ _ R1.out ?hi2 ?hs ?h1 ?_)
  case hi => rw [List.size_toArray, SrcL_length _ _ _ hl]; exact infoSrc
  case hi2 => rw [List.size_toArray, SrcL_length _ _ _ hl]; exact infoSrc
  case hs => simp [SrcZ, SrcL, hl]
  case h1 => exact SrcL_one v l p
  intro W3 hP3
  go_wp2
  exact bodyPost_ret (v := .agg (SrcL v l p).toArray) (results_cell_row rfl _ _ _ _ (SrcL v l p).toArray _ _ rfl hP3.here Tryd.underlying48 rfl (by rw [List.size_toArray, SrcL_length _ _ _ hl]; exact infoSrc)) rfl ⟨rfl, hP3.below _ _ RB.out (by omega)⟩
end Go.Proofs.YtgpjdbkdnojbhaaDoor
namespace Go.Proofs.YtgpjdbkdnojbhaaDoor
open Go.RowKit
set_option linter.unusedVariables false

theorem infoByte : (Tryd.prog.info? 5).map (fun i => (i.zero, i.size, i.bytes)) = some (some (.int .u8 0), 1, 1) := by kernel_rfl
/-- A slice of the call's own that is not nil. -/
def OwnS (w0 w : World) (x : Value) (l : List Int) : Prop := ∃ g c, x = .slice (some ⟨g, 0, none⟩) l.length c ∧ Own .u8 5 w0.heap.size w x l
theorem OwnS.of {w0 w : World} {x : Value} {l : List Int} (h : Own .u8 5 w0.heap.size w x l) (hne : l ≠ []) : OwnS w0 w x l := by
  obtain ⟨_, rfl⟩ | ⟨g, cap, rfl, _⟩ := h.at
  · exact absurd rfl hne
  · exact ⟨g, cap, rfl, h⟩

/-- Bytes that lie in a block from a place on. -/
def Lies (w : World) (b o : Nat) (l : List Int) : Prop := b < w.heap.size ∧ ∀ j, j < l.length → w.cell? ⟨b, o + j, none⟩ = some (.int .u8 (l.getD j 0))
theorem Lies.later {w w' : World} {b o B : Nat} {l : List Int} (h : Lies w b o l) (hb : Below B w w') (hB : b < B) : Lies w' b o l :=
  ⟨Nat.lt_of_lt_of_le h.1 hb.size, fun j hj => (hb.cell (p := ⟨b, o + j, none⟩) hB).trans (h.2 j hj)⟩
theorem OwnS.lies {w0 w : World} {x : Value} {l : List Int} (h : OwnS w0 w x l) : ∃ g c, x = .slice (some ⟨g, 0, none⟩) l.length c ∧ w0.heap.size ≤ g ∧ Lies w g 0 l ∧ l.length ≤ c ∧ c ≤ 9223372036854775807 := by
  obtain ⟨g, c, rfl, hown⟩ := h
  obtain ⟨h, _⟩ | ⟨g', cap, h, hb, hg2, hc1, hc2, hcell, _⟩ := hown.at
  · cases h
  · cases h
    exact ⟨g, c, rfl, hb, ⟨hg2, fun j hj => by rw [Nat.zero_add]; exact hcell j hj⟩, hc1, hc2⟩

set_option maxHeartbeats 1000000 in
theorem l1Join_any (ga oa ca gb ob cb : Nat) (la lb : List Int) (n m : Nat) (hla : la.length = n) (hlb : lb.length = m) (hlen : n + m ≤ 100000000) (hne : la ++ lb ≠ []) (w : World) (ha : Lies w ga oa la) (hb : Lies w gb ob lb) :
    Calls Tryd.prog 48 #[.slice (some ⟨ga, oa, none⟩) n ca, .slice (some ⟨gb, ob, none⟩) m cb] w fun e w' => ∃ x, e = .returned x ∧ OwnS w w' x (la ++ lb) ∧ Below w.heap.size w w' := by
  have HA : Hid (Lies w ga oa la) := ha
  have HB : Hid (Lies w gb ob lb) := hb
  have HO : Hid (Own .u8 5 w.heap.size (w.alloc (.cells #[] 5)) (.slice (some ⟨w.heap.size, 0, none⟩) 0 0) []) := Own.nil w (Nat.le_refl _)
  have HW : Hid (Below w.heap.size w (w.alloc (.cells #[] 5))) := (Below.refl _ _).alloc (Nat.le_refl _) _
  have HS : Hid (w.heap.size ≤ (w.alloc (.cells #[] 5)).heap.size) := HW.out.size
  have HN : Hid (∀ j, j < n → (w.alloc (.cells #[] 5)).cell? ⟨ga, oa + j, none⟩ = some (.int .u8 (la.getD j 0))) := fun j hj => (ha.later HW.out ha.1).2 j (by omega)
  have HL : Hid (la.length = n) := hla
  have HM : Hid (lb.length = m) := hlb
  have HNE : Hid (la ++ lb ≠ []) := hne
  clear ha hb hla hlb hne
  go_enter Tryd.func48, Tryd.ntmps48
  go_wp2_with (first
    | (at_builtin; refine extend_law .u8 22 5 1 Tryd.underlying22 infoByte (by decide) rfl (.tmp 6) (.tmp 7) rfl w.heap.size w _ _ [] ga oa n ca la HL.out rfl rfl HO.out HW.out HS.out (by simp; omega) HN.out ?_; intro v2 w2 hown2 hbel2 _ _
       have HN2 : Hid (∀ j, j < m → w2.cell? ⟨gb, ob + j, none⟩ = some (.int .u8 (lb.getD j 0))) := fun j hj => (HB.out.later hbel2 HB.out.1).2 j (by have := HM.out; omega))
    | (at_builtin; refine extend_law .u8 22 5 1 Tryd.underlying22 infoByte (by decide) rfl (.tmp 9) (.tmp 10) rfl w.heap.size w _ _ la gb ob m cb lb HM.out rfl rfl hown2 hbel2 hbel2.size (by have := HL.out; omega) HN2.out ?_; intro v3 w3 hown3 hbel3 _ _))
  go_ret
  exact ⟨_, rfl, OwnS.of hown3 HNE.out, hbel3⟩
end Go.Proofs.YtgpjdbkdnojbhaaDoor
namespace Go.Proofs.YtgpjdbkdnojbhaaDoor
open Go.RowKit
set_option linter.unusedVariables false

theorem infoU8w : (Tryd.prog.info? 5).map (·.size) = some 1 := by kernel_rfl
def srcN (v : Bool) : Nat := if v then 16 else 4
def srcB (v : Bool) (l : List Int) (p : Int) : List Int := l.take (srcN v) ++ [p / 256, p % 256]
def zerosN (n : Nat) : List Int := List.replicate n 0
/-- A slice of bytes in a block that is new since w0. -/
def FreshS (w0 w : World) (x : Value) (l : List Int) : Prop := ∃ g c cs, x = .slice (some ⟨g, 0, none⟩) l.length c ∧ w0.heap.size ≤ g ∧ l.length ≤ c ∧ c ≤ 9223372036854775807 ∧ w.heap[g]? = some (.cells cs 5) ∧ ∀ j, j < l.length → cs[j]? = some (.int .u8 (l.getD j 0))
theorem OwnS.fresh {w0 w : World} {x : Value} {l : List Int} (h : OwnS w0 w x l) : FreshS w0 w x l := by
  obtain ⟨g, c, rfl, hown⟩ := h
  obtain ⟨hl, ⟨hv, hn⟩ | ⟨g', cap, cur, hv, hg, hh, hc, hm, hs, ht⟩⟩ := hown
  · cases hv
  · cases hv
    refine ⟨g, c, cur, rfl, hg, hc, by unfold maxLen at hm; omega, hh, fun j hj => ?_⟩
    rw [← cell_of_row _ _ j _ _ _ hh]
    obtain ⟨h', _⟩ | ⟨g', cap', h', _, _, _, _, hcell', _⟩ := Own.at (k := .u8) (e := 5) (base := w0.heap.size) (w := w) (l := l) ⟨hl, .inr ⟨g, c, cur, rfl, hg, hh, hc, hm, hs, ht⟩⟩
    · cases h'
    · cases h'
      exact hcell' j hj
set_option maxHeartbeats 1000000 in
theorem implWriteSource_any (v : Bool) (l : List Int) (p : Int) (hl : l.length = 16) (hp0 : 0 ≤ p) (hp1 : p ≤ 65535) (w : World) :
    Calls Tryd.prog 54 #[.agg (SrcL v l p).toArray] w fun e w' => ∃ x, e = .returned x ∧ FreshS w w' x (srcB v l p) ∧ Below w.heap.size w w' := by
  have hv := SrcL_v6 v l p
  have hp := SrcL_port v l p hl
  have m6 : ∀ W : World, (Instr.makeSlice 22 (.int .i64 6) (.int .i64 6)).run Tryd.prog W = .ok (.slice (some ⟨W.heap.size, 0, none⟩) 6 6) (W.alloc (.cells (Iv .u8 (zerosN 6)) 5)) := fun W => make_ints (P := Tryd.prog) 22 5 .u8 1 6 Tryd.underlying22 infoByte (by omega) (by omega) W
  have m18 : ∀ W : World, (Instr.makeSlice 22 (.int .i64 18) (.int .i64 18)).run Tryd.prog W = .ok (.slice (some ⟨W.heap.size, 0, none⟩) 18 18) (W.alloc (.cells (Iv .u8 (zerosN 18)) 5)) := fun W => make_ints (P := Tryd.prog) 22 5 .u8 1 18 Tryd.underlying22 infoByte (by omega) (by omega) W
  go_enter Tryd.func54, Tryd.ntmps54
  cases v
  · obtain ⟨W, hW, h0, h1, hs, hb⟩ := alloc2 w (.cells (SrcL false l p).toArray 48) (.cells (Iv .u8 (zerosN 6)) 5)
    have G1 : Hid (((w.alloc (.cells (SrcL false l p).toArray 48)).alloc (.cells (Iv .u8 (zerosN 6)) 5)).heap[w.heap.size + 1]? = some (.cells (Iv .u8 (zerosN 6)) 5)) := by show _ = _; rw [hW]; exact h1
    have G0 : Hid (((w.alloc (.cells (SrcL false l p).toArray 48)).alloc (.cells (Iv .u8 (zerosN 6)) 5)).heap[w.heap.size]? = some (.cells (SrcL false l p).toArray 48)) := by show _ = _; rw [hW]; exact h0
    have HB0 : Hid (Below w.heap.size w ((w.alloc (.cells (SrcL false l p).toArray 48)).alloc (.cells (Iv .u8 (zerosN 6)) 5))) := by show Below _ _ _; rw [hW]; exact hb
    have HC : Hid (∀ j, j < 4 → ((w.alloc (.cells (SrcL false l p).toArray 48)).alloc (.cells (Iv .u8 (zerosN 6)) 5)).cell? ⟨w.heap.size, 1 + j, none⟩ = some (.int .u8 ((l.take 4).getD j 0))) := by
      intro j hj
      rw [cell_of_row _ _ _ _ _ _ G0.out, SrcL_addr false l p hl j (by omega), getD_take, if_pos hj]
    clear hW h0 h1 hb hs
    go_wp2_with (refine copy_put .u8 rfl (.tmp 10) (.tmp 13) 22 22 rfl 5 Tryd.underlying22 infoU8w (w.heap.size + 1) 0 6 6 w.heap.size 1 4 16 rfl rfl (zerosN 6) (l.take 4) (l.take 4 ++ [0, 0]) 4 _ G1.out (by simp [hl]) rfl HC.out (by simp [zerosN]) (by simp [zerosN]) ?_; intro W2 hP)
    clear m6 m18
    have hpc : W2.cell? ⟨w.heap.size, 17, none⟩ = some (.int .u16 p) := by
      rw [cell_of_row _ _ _ _ _ _ ((hP.far _ (by omega)).trans G0.out)]
      exact hp
    have hpc' : W2.drew.cell? ⟨w.heap.size, 17, none⟩ = some (.int .u16 p) := hpc
    have HG : Hid _ := hP.here
    have HB : Hid (Below w.heap.size w W2) := hP.below _ _ HB0.out (by omega)
    clear hP
    simp only [Act.put, List.setIfInBounds_toArray, List.set_cons_succ, List.set_cons_zero]
    refine wp_region_head 5 (by kernel_rfl) (by kernel_rfl) ?_
    simp only [List.take_succ_cons, List.take_zero, List.drop_succ_cons, List.drop_zero]
    repeat (go_big_quiet_step (fail))
    refine wpQuiet_nil ?_
    go_wp2_with fail
    refine (putBig16_any (w.heap.size + 1) 4 2 2 5 (l.take 4 ++ [0, 0]) p W2.drew HG.out (by simp [hl]) (by decide) (by decide) hp0).mono ?_
    rintro e w3 ⟨rfl, hQ⟩
    have hfin : putFrom (l.take 4 ++ [0, 0]) 4 (fun i => p / 256 ^ (2 - 1 - i) % 256) 2 = srcB false l p := by
      have e1 : p / 256 % 256 = p / 256 := by omega
      have ht : (l.take 4).length = 4 := by simp [hl]
      simp [putFrom, srcB, srcN, List.range_succ, e1, ht, List.drop_append]
    rw [hfin] at hQ
    have hlen : (srcB false l p).length = 6 := by simp [srcB, srcN, hl]
    have hc : ∀ j, j < (srcB false l p).length → (Iv .u8 (srcB false l p))[j]? = some (.int .u8 ((srcB false l p).getD j 0)) := by
      intro j hj
      rw [Iv_get .u8 _ j hj, List.getD_eq_getElem?_getD, List.getElem?_eq_getElem hj]
      rfl
    go_wp2
    go_ret
    refine ⟨_, rfl, ⟨w.heap.size + 1, 6, Iv .u8 (srcB false l p), by rw [hlen]; rfl, by omega, by rw [hlen]; decide, by decide, hQ.here, hc⟩, hQ.below _ _ (below_drews HB.out 1) (by omega)⟩
  · obtain ⟨W, hW, h0, h1, hs, hb⟩ := alloc2 w (.cells (SrcL true l p).toArray 48) (.cells (Iv .u8 (zerosN 18)) 5)
    have G1 : Hid (((w.alloc (.cells (SrcL true l p).toArray 48)).alloc (.cells (Iv .u8 (zerosN 18)) 5)).heap[w.heap.size + 1]? = some (.cells (Iv .u8 (zerosN 18)) 5)) := by show _ = _; rw [hW]; exact h1
    have G0 : Hid (((w.alloc (.cells (SrcL true l p).toArray 48)).alloc (.cells (Iv .u8 (zerosN 18)) 5)).heap[w.heap.size]? = some (.cells (SrcL true l p).toArray 48)) := by show _ = _; rw [hW]; exact h0
    have HB0 : Hid (Below w.heap.size w ((w.alloc (.cells (SrcL true l p).toArray 48)).alloc (.cells (Iv .u8 (zerosN 18)) 5))) := by show Below _ _ _; rw [hW]; exact hb
    have HC : Hid (∀ j, j < 16 → ((w.alloc (.cells (SrcL true l p).toArray 48)).alloc (.cells (Iv .u8 (zerosN 18)) 5)).cell? ⟨w.heap.size, 1 + j, none⟩ = some (.int .u8 ((l.take 16).getD j 0))) := by
      intro j hj
      rw [cell_of_row _ _ _ _ _ _ G0.out, SrcL_addr true l p hl j (by omega), getD_take, if_pos hj]
    clear hW h0 h1 hb hs
    go_wp2_with (refine copy_put .u8 rfl (.tmp 10) (.tmp 13) 22 22 rfl 5 Tryd.underlying22 infoU8w (w.heap.size + 1) 0 18 18 w.heap.size 1 16 16 rfl rfl (zerosN 18) (l.take 16) (l.take 16 ++ [0, 0]) 16 _ G1.out (by simp [hl]) rfl HC.out (by simp [zerosN]) (by simp [zerosN]) ?_; intro W2 hP)
    clear m6 m18
    have hpc : W2.cell? ⟨w.heap.size, 17, none⟩ = some (.int .u16 p) := by
      rw [cell_of_row _ _ _ _ _ _ ((hP.far _ (by omega)).trans G0.out)]
      exact hp
    have hpc' : W2.drew.cell? ⟨w.heap.size, 17, none⟩ = some (.int .u16 p) := hpc
    have HG : Hid _ := hP.here
    have HB : Hid (Below w.heap.size w W2) := hP.below _ _ HB0.out (by omega)
    clear hP
    simp only [Act.put, List.setIfInBounds_toArray, List.set_cons_succ, List.set_cons_zero]
    refine wp_region_head 5 (by kernel_rfl) (by kernel_rfl) ?_
    simp only [List.take_succ_cons, List.take_zero, List.drop_succ_cons, List.drop_zero]
    repeat (go_big_quiet_step (fail))
    refine wpQuiet_nil ?_
    go_wp2_with fail
    refine (putBig16_any (w.heap.size + 1) 16 2 2 5 (l.take 16 ++ [0, 0]) p W2.drew HG.out (by simp [hl]) (by decide) (by decide) hp0).mono ?_
    rintro e w3 ⟨rfl, hQ⟩
    have hfin : putFrom (l.take 16 ++ [0, 0]) 16 (fun i => p / 256 ^ (2 - 1 - i) % 256) 2 = srcB true l p := by
      have e1 : p / 256 % 256 = p / 256 := by omega
      have ht : (l.take 16).length = 16 := by simp [hl]
      simp [putFrom, srcB, srcN, List.range_succ, e1, ht, List.drop_append]
    rw [hfin] at hQ
    have hlen : (srcB true l p).length = 18 := by simp [srcB, srcN, hl]
    have hc : ∀ j, j < (srcB true l p).length → (Iv .u8 (srcB true l p))[j]? = some (.int .u8 ((srcB true l p).getD j 0)) := by
      intro j hj
      rw [Iv_get .u8 _ j hj, List.getD_eq_getElem?_getD, List.getElem?_eq_getElem hj]
      rfl
    go_wp2
    go_ret
    refine ⟨_, rfl, ⟨w.heap.size + 1, 18, Iv .u8 (srcB true l p), by rw [hlen]; rfl, by omega, by rw [hlen]; decide, by decide, hQ.here, hc⟩, hQ.below _ _ (below_drews HB.out 1) (by omega)⟩
set_option maxHeartbeats 1000000 in
theorem specWriteSource_any (v : Bool) (l : List Int) (p : Int) (hl : l.length = 16) (hp0 : 0 ≤ p) (hp1 : p ≤ 65535) (w : World) :
    Calls Tryd.prog 53 #[.agg (SrcL v l p).toArray] w fun e w' => ∃ x, e = .returned x ∧ FreshS w w' x (srcB v l p) ∧ Below w.heap.size w w' := by
  have hv := SrcL_v6 v l p
  have hp := SrcL_port v l p hl
  go_enter Tryd.func53, Tryd.ntmps53
  cases v
  · obtain ⟨W, hW, h0, h1, hs, hb⟩ := alloc2 w (.cells (SrcL false l p).toArray 48) (.cells #[] 5)
    have HO : Hid (Own .u8 5 w.heap.size ((w.alloc (.cells (SrcL false l p).toArray 48)).alloc (.cells #[] 5)) (.slice (some ⟨w.heap.size + 1, 0, none⟩) 0 0) []) := by
      have := Own.nil (k := .u8) (e := 5) (base := w.heap.size) (w.alloc (.cells (SrcL false l p).toArray 48)) (by simp)
      show Own _ _ _ _ _ _
      simpa using this
    have HB0 : Hid (Below w.heap.size w ((w.alloc (.cells (SrcL false l p).toArray 48)).alloc (.cells #[] 5))) := by show Below _ _ _; rw [hW]; exact hb
    have HC : Hid (∀ j, j < 4 → ((w.alloc (.cells (SrcL false l p).toArray 48)).alloc (.cells #[] 5)).cell? ⟨w.heap.size, 1 + j, none⟩ = some (.int .u8 ((l.take 4).getD j 0))) := by
      intro j hj
      rw [hW, cell_of_row _ _ _ _ _ _ h0, SrcL_addr false l p hl j (by omega), getD_take, if_pos hj]
    have H1 : Hid (((w.alloc (.cells (SrcL false l p).toArray 48)).alloc (.cells #[] 5)).heap[w.heap.size]? = some (.cells (SrcL false l p).toArray 48)) := by show _ = _; rw [hW]; exact h0
    clear hW h0 h1 hb hs
    have HL : Hid ((l.take 4).length = 4) := by show _ = _; simp [hl]
    go_wp2_with (first
    | (at_builtin; refine extend_law .u8 22 5 1 Tryd.underlying22 infoByte (by decide) rfl (.tmp 7) (.tmp 10) rfl w.heap.size w _ _ [] w.heap.size 1 4 16 (l.take 4) HL.out rfl rfl HO.out HB0.out HB0.out.size (by simp) HC.out ?_; intro v2 w2 hown2 hbel2 hgr2 _
       rw [List.nil_append] at hown2
       have c17 : w2.cell? ⟨w.heap.size, 17, none⟩ = some (.int .u16 p) := by
         rw [cell_of_row _ _ _ _ _ _ ((hgr2.block w.heap.size (by simp; omega) (by simp [Value.ownBlock, Act.eval])).trans H1.out)]
         exact hp
       clear hgr2)
    | (at_builtin; refine stop_here ?_))
    refine hid_mk ?_
    refine extend_law .u8 22 5 1 Tryd.underlying22 infoByte (by decide) rfl (.tmp 12) (.tmp 21) rfl w.heap.size w _ _ (l.take 4) w2.heap.size 0 2 2 [IntKind.u16.wrap (p.tdiv 256) % 256, p % 256] rfl rfl rfl (World.ownsRow.alloc hown2 _) (hbel2.alloc hbel2.size _) ?hs (by have := HL.out; simp only [List.length_take]; omega) ?hn ?_
    rotate_left 2
    intro v3 w3 hown3 hbel3 _ _
    go_wp2
    rotate_left 1
    case hs => have := hbel2.size; simp; omega
    case hn =>
      intro j hj
      rw [cell_of_row _ _ _ _ _ _ (heap_alloc_new _ _)]
      match j, hj with
      | 0, _ => rfl
      | 1, _ => rfl
    go_ret
    have hq : IntKind.u16.wrap (p.tdiv 256) % 256 = p / 256 := by
      rw [Int.tdiv_eq_ediv_of_nonneg hp0, IntKind.wrap_u16]
      omega
    rw [hq] at hown3
    have hne : (srcB false l p) ≠ [] := by simp [srcB]
    exact ⟨_, rfl, (OwnS.of (l := srcB false l p) hown3 hne).fresh, hbel3⟩
  · obtain ⟨W, hW, h0, h1, hs, hb⟩ := alloc2 w (.cells (SrcL true l p).toArray 48) (.cells #[] 5)
    have HO : Hid (Own .u8 5 w.heap.size ((w.alloc (.cells (SrcL true l p).toArray 48)).alloc (.cells #[] 5)) (.slice (some ⟨w.heap.size + 1, 0, none⟩) 0 0) []) := by
      have := Own.nil (k := .u8) (e := 5) (base := w.heap.size) (w.alloc (.cells (SrcL true l p).toArray 48)) (by simp)
      show Own _ _ _ _ _ _
      simpa using this
    have HB0 : Hid (Below w.heap.size w ((w.alloc (.cells (SrcL true l p).toArray 48)).alloc (.cells #[] 5))) := by show Below _ _ _; rw [hW]; exact hb
    have HC : Hid (∀ j, j < 16 → ((w.alloc (.cells (SrcL true l p).toArray 48)).alloc (.cells #[] 5)).cell? ⟨w.heap.size, 1 + j, none⟩ = some (.int .u8 ((l.take 16).getD j 0))) := by
      intro j hj
      rw [hW, cell_of_row _ _ _ _ _ _ h0, SrcL_addr true l p hl j (by omega), getD_take, if_pos hj]
    have H1 : Hid (((w.alloc (.cells (SrcL true l p).toArray 48)).alloc (.cells #[] 5)).heap[w.heap.size]? = some (.cells (SrcL true l p).toArray 48)) := by show _ = _; rw [hW]; exact h0
    clear hW h0 h1 hb hs
    have HL : Hid ((l.take 16).length = 16) := by show _ = _; simp [hl]
    go_wp2_with (first
    | (at_builtin; refine extend_law .u8 22 5 1 Tryd.underlying22 infoByte (by decide) rfl (.tmp 7) (.tmp 10) rfl w.heap.size w _ _ [] w.heap.size 1 16 16 (l.take 16) HL.out rfl rfl HO.out HB0.out HB0.out.size (by simp) HC.out ?_; intro v2 w2 hown2 hbel2 hgr2 _
       rw [List.nil_append] at hown2
       have c17 : w2.cell? ⟨w.heap.size, 17, none⟩ = some (.int .u16 p) := by
         rw [cell_of_row _ _ _ _ _ _ ((hgr2.block w.heap.size (by simp; omega) (by simp [Value.ownBlock, Act.eval])).trans H1.out)]
         exact hp
       clear hgr2)
    | (at_builtin; refine stop_here ?_))
    refine hid_mk ?_
    refine extend_law .u8 22 5 1 Tryd.underlying22 infoByte (by decide) rfl (.tmp 12) (.tmp 21) rfl w.heap.size w _ _ (l.take 16) w2.heap.size 0 2 2 [IntKind.u16.wrap (p.tdiv 256) % 256, p % 256] rfl rfl rfl (World.ownsRow.alloc hown2 _) (hbel2.alloc hbel2.size _) ?hs (by have := HL.out; simp only [List.length_take]; omega) ?hn ?_
    rotate_left 2
    intro v3 w3 hown3 hbel3 _ _
    go_wp2
    rotate_left 1
    case hs => have := hbel2.size; simp; omega
    case hn =>
      intro j hj
      rw [cell_of_row _ _ _ _ _ _ (heap_alloc_new _ _)]
      match j, hj with
      | 0, _ => rfl
      | 1, _ => rfl
    go_ret
    have hq : IntKind.u16.wrap (p.tdiv 256) % 256 = p / 256 := by
      rw [Int.tdiv_eq_ediv_of_nonneg hp0, IntKind.wrap_u16]
      omega
    rw [hq] at hown3
    have hne : (srcB true l p) ≠ [] := by simp [srcB]
    exact ⟨_, rfl, (OwnS.of (l := srcB true l p) hown3 hne).fresh, hbel3⟩
end Go.Proofs.YtgpjdbkdnojbhaaDoor
namespace Go.Proofs.YtgpjdbkdnojbhaaDoor
open Go.RowKit
set_option linter.unusedVariables false
theorem wpQuiet_pure {P : Program} {ops : Array Oper} {C : World → Prop} {Q : Act → Prop} {a : Act} {o : Oper} {rest : List Oper} (hgd : o.guard = none) (v : Value) (he : ∀ w, (execOp a.eval o).run P w = .ok (.value v) w) (h : wpQuiet P ops C Q rest (a.put o.dst v)) : wpQuiet P ops C Q (o :: rest) a := by
  refine wpQuiet_wanted hgd (v := v) (fun w hw => ?_) h
  unfold Oper.quietAt
  rw [he w]
  exact ⟨rfl, rfl⟩
theorem srcB_len (v : Bool) (l : List Int) (p : Int) (hl : l.length = 16) : (srcB v l p).length ≤ 18 := by
  cases v <;> simp [srcB, srcN, hl]
theorem srcB_bytes (v : Bool) (l : List Int) (p : Int) (hl : Bytes l) (hp0 : 0 ≤ p) (hp1 : p ≤ 65535) : Bytes (srcB v l p) := by
  unfold srcB
  refine bytes_append (bytes_take hl _) fun i => ?_
  match i with
  | 0 => simp; omega
  | 1 => simp; omega
  | i + 2 => simp
set_option maxRecDepth 10000 in
set_option maxHeartbeats 1000000 in
theorem specCookieOf_any (key : List Int) (hk : key.length = 32) (hkb : Bytes key) (v : Bool) (l : List Int) (p : Int) (hl : l.length = 16) (hlb : Bytes l) (hp0 : 0 ≤ p) (hp1 : p ≤ 65535) (w : World) (Bo : List Int) (HBO : Hid (∀ x, macR key (srcB v l p) = x → x = Bo)) :
    Calls Tryd.prog 31 #[.agg (Iv .u8 key), .agg (SrcL v l p).toArray] w fun e w' => e = .returned (.agg (Iv .u8 Bo)) ∧ Below w.heap.size w w' := by
  have hzm := zeroM16
  have hBo : Bo.length = 16 := by rw [← HBO.out _ rfl]; exact macR_length _ _
  have hi16 : Hid ((Tryd.prog.info? 29).map (·.size) = some (Iv .u8 Bo).size) := by show _ = _; rw [Iv_size, hBo]; exact infoM16
  have hz16 : Hid ((Iv .u8 (zeroL 16)).size = (Iv .u8 Bo).size) := by show _ = _; rw [Iv_size, Iv_size, hBo]; rfl
  have his : Hid ((Tryd.prog.info? 48).map (·.size) = some (SrcL v l p).toArray.size) := by show _ = _; rw [List.size_toArray, SrcL_length _ _ _ hl]; exact infoSrc
  have HSL : Hid ((srcB v l p).length ≤ 18) := srcB_len v l p hl
  have HSB : Hid (Bytes (srcB v l p)) := srcB_bytes v l p hlb hp0 hp1
  go_enter Tryd.func31, Tryd.ntmps31
  go_wp2_with fail
  obtain ⟨W, hW, g0, g1, g2, hs, hB⟩ := alloc3 w (.cells (Iv .u8 key) 23) (.cells (SrcL v l p).toArray 48) (.cells (Iv .u8 (zeroL 16)) 29)
  rw [hW]
  clear hW
  have G0 : Hid _ := g0
  have G1 : Hid _ := g1
  have G2 : Hid _ := g2
  have HB : Hid _ := hB
  clear g0 g1 g2 hB
  have S0 : ∃ x : Bel W.heap.size W, W.drew = x.w := ⟨⟨W.drew, below_drews (Below.refl _ _) 1⟩, rfl⟩
  refine wp_region_late2 2 4 (fun w' => ∃ x : Bel W.heap.size W, w' = x.w) [(.held, [0]), (.exact, [1]), (.tail, [2]), (.tail, [3]), (.last, [4])] mixedB (by kernel_rfl) S0 ?_
  simp only [wpRuns2, opsAt_cons, opsAt_nil, nthOp_zero, nthOp_succ, List.cons_append, List.nil_append]
  refine wpQuiet_pure rfl (.slice (some ⟨w.heap.size, 0, none⟩) 32 32) (fun W' => by kernel_rfl) ?_
  simp only [Act.put, List.setIfInBounds_toArray, List.set_cons_succ, List.set_cons_zero]
  refine wpQuiet_nil ?_
  refine wpQuiet_load_row rfl 48 _ rfl (w.heap.size + 1) rfl _ (SrcL v l p).toArray _ _ (fun W' hW => by subst hW; exact G1.out) Tryd.underlying48 rfl his.out ?_
  simp only [Act.put, List.setIfInBounds_toArray, List.set_cons_succ, List.set_cons_zero]
  refine wpQuiet_nil ?_
  go_wp2_with fail
  refine (specWriteSource_any v l p hl hp0 hp1 _).mono ?_
  rintro e w3 ⟨x, rfl, ⟨g, c, cs, rfl, hg, hc1, hc2, hgr, hgc⟩, hb3⟩
  have B3' : Below W.heap.size W w3 := ⟨hb3.os, hb3.tape, hb3.output, hb3.size, hb3.block⟩
  have K3 : Hid _ := (B3'.block w.heap.size (by omega)).trans G0.out
  have Z3 : Hid _ := (B3'.block (w.heap.size + 1 + 1) (by omega)).trans G2.out
  have B3 : Hid (Below w.heap.size w w3) := HB.out.trans (B3'.mono (by omega))
  have HCL : Hid (∀ j, j < (srcB v l p).length → w3.cell? ⟨g, j, none⟩ = some (.int .u8 ((srcB v l p).getD j 0))) := fun j hj => by rw [cell_of_row _ _ _ _ _ _ hgr]; exact hgc j hj
  have PO : Hid (PartOk w3 (.slice (some ⟨g, 0, none⟩) (srcB v l p).length c) (srcB v l p)) := ⟨_, _, _, rfl, rfl, hc1, hc2, HSB.out, .inr ⟨g, 0, rfl, fun j hj => by rw [Nat.zero_add]; exact HCL.out j hj⟩⟩
  have hs3 : w.heap.size + 1 + 1 < w3.heap.size := by have := B3'.size; omega
  have HBB : Hid _ := B3'
  clear hb3 hgr hgc B3' G0 G1 G2 HB
  go_wp2_with fail
  refine ⟨⟨⟨_, HBB.out⟩, rfl⟩, ?_⟩
  go_wp2_with fail
  refine (specMac_any key (srcB v l p) 32 (srcB v l p).length hk hkb w.heap.size 0 32 g 0 c w3 (fun j hj => by rw [Nat.zero_add]; exact RowAt.cell (show RowAt w3 _ .u8 key _ from K3.out) j (by omega)) rfl (by have := HSL.out; omega) HSB.out (fun j hj => by rw [Nat.zero_add]; exact HCL.out j hj) Bo HBO).mono ?_
  rintro e w4 ⟨rfl, hb4⟩
  have Z4 : Hid _ := (hb4.block _ hs3).trans Z3.out
  have B4 : Hid (Below w.heap.size w w4) := B3.out.trans (hb4.mono B3.out.size)
  have HBB4 : Hid (Below W.heap.size W w4) := HBB.out.trans (hb4.mono HBB.out.size)
  clear hb4 K3 Z3 B3 HCL PO HBB
  go_wp2_with fail
  refine ⟨⟨⟨_, HBB4.out⟩, rfl⟩, ?_⟩
  refine wpList_put_row rfl 29 (.tmp 4) (.tmp 8) rfl (w.heap.size + 1 + 1) (Iv .u8 Bo) rfl rfl _ _ Z4.out hi16.out hz16.out (Iv_one _ _) ?_
  intro W9 hP9
  simp only [Act.put]
  have h9 := hP9.here
  have B9 : Below w.heap.size w W9 := hP9.below _ _ B4.out (by omega)
  clear hP9 Z4 B4 HBB4
  go_wp2_with fail
  refine last_normal ?_
  go_wp2
  exact bodyPost_ret (v := .agg (Iv .u8 Bo)) (results_cell_row rfl _ _ _ _ (Iv .u8 Bo) _ _ rfl h9 Tryd.underlying29 rfl hi16.out) rfl ⟨rfl, B9⟩
set_option maxRecDepth 10000 in
set_option maxHeartbeats 1000000 in
theorem implCookieOf_any (key : List Int) (hk : key.length = 32) (hkb : Bytes key) (v : Bool) (l : List Int) (p : Int) (hl : l.length = 16) (hlb : Bytes l) (hp0 : 0 ≤ p) (hp1 : p ≤ 65535) (w : World) (ht : Tabs w) (Bo : List Int) (HBO : Hid (∀ x, macR key (srcB v l p) = x → x = Bo)) :
    Calls Tryd.prog 34 #[.agg (Iv .u8 key), .agg (SrcL v l p).toArray] w fun e w' => e = .returned (.agg (Iv .u8 Bo)) ∧ Below w.heap.size w w' := by
  have hzm := zeroM16
  have HT : Hid _ := ht
  clear ht
  have hBo : Bo.length = 16 := by rw [← HBO.out _ rfl]; exact macR_length _ _
  have hi16 : Hid ((Tryd.prog.info? 29).map (·.size) = some (Iv .u8 Bo).size) := by show _ = _; rw [Iv_size, hBo]; exact infoM16
  have hz16 : Hid ((Iv .u8 (zeroL 16)).size = (Iv .u8 Bo).size) := by show _ = _; rw [Iv_size, Iv_size, hBo]; rfl
  have his : Hid ((Tryd.prog.info? 48).map (·.size) = some (SrcL v l p).toArray.size) := by show _ = _; rw [List.size_toArray, SrcL_length _ _ _ hl]; exact infoSrc
  have HSL : Hid ((srcB v l p).length ≤ 18) := srcB_len v l p hl
  have HSB : Hid (Bytes (srcB v l p)) := srcB_bytes v l p hlb hp0 hp1
  go_enter Tryd.func34, Tryd.ntmps34
  go_wp2_with fail
  obtain ⟨W, hW, g0, g1, g2, hs, hB⟩ := alloc3 w (.cells (Iv .u8 key) 23) (.cells (SrcL v l p).toArray 48) (.cells (Iv .u8 (zeroL 16)) 29)
  rw [hW]
  clear hW
  have G0 : Hid _ := g0
  have G1 : Hid _ := g1
  have G2 : Hid _ := g2
  have HB : Hid _ := hB
  clear g0 g1 g2 hB
  have S0 : ∃ x : Bel W.heap.size W, W.drew = x.w := ⟨⟨W.drew, below_drews (Below.refl _ _) 1⟩, rfl⟩
  refine wp_region_late2 2 4 (fun w' => ∃ x : Bel W.heap.size W, w' = x.w) [(.held, [0]), (.exact, [1]), (.tail, [2]), (.tail, [3]), (.last, [4])] mixedB (by kernel_rfl) S0 ?_
  simp only [wpRuns2, opsAt_cons, opsAt_nil, nthOp_zero, nthOp_succ, List.cons_append, List.nil_append]
  refine wpQuiet_pure rfl (.slice (some ⟨w.heap.size, 0, none⟩) 32 32) (fun W' => by kernel_rfl) ?_
  simp only [Act.put, List.setIfInBounds_toArray, List.set_cons_succ, List.set_cons_zero]
  refine wpQuiet_nil ?_
  refine wpQuiet_load_row rfl 48 _ rfl (w.heap.size + 1) rfl _ (SrcL v l p).toArray _ _ (fun W' hW => by subst hW; exact G1.out) Tryd.underlying48 rfl his.out ?_
  simp only [Act.put, List.setIfInBounds_toArray, List.set_cons_succ, List.set_cons_zero]
  refine wpQuiet_nil ?_
  go_wp2_with fail
  refine (implWriteSource_any v l p hl hp0 hp1 _).mono ?_
  rintro e w3 ⟨x, rfl, ⟨g, c, cs, rfl, hg, hc1, hc2, hgr, hgc⟩, hb3⟩
  have B3' : Below W.heap.size W w3 := ⟨hb3.os, hb3.tape, hb3.output, hb3.size, hb3.block⟩
  have K3 : Hid _ := (B3'.block w.heap.size (by omega)).trans G0.out
  have Z3 : Hid _ := (B3'.block (w.heap.size + 1 + 1) (by omega)).trans G2.out
  have B3 : Hid (Below w.heap.size w w3) := HB.out.trans (B3'.mono (by omega))
  have HCL : Hid (∀ j, j < (srcB v l p).length → w3.cell? ⟨g, j, none⟩ = some (.int .u8 ((srcB v l p).getD j 0))) := fun j hj => by rw [cell_of_row _ _ _ _ _ _ hgr]; exact hgc j hj
  have PO : Hid (PartOk w3 (.slice (some ⟨g, 0, none⟩) (srcB v l p).length c) (srcB v l p)) := ⟨_, _, _, rfl, rfl, hc1, hc2, HSB.out, .inr ⟨g, 0, rfl, fun j hj => by rw [Nat.zero_add]; exact HCL.out j hj⟩⟩
  have hs3 : w.heap.size + 1 + 1 < w3.heap.size := by have := B3'.size; omega
  have HBB : Hid _ := B3'
  clear hb3 hgr hgc B3' G0 G1 G2 HB
  go_wp2_with fail
  refine ⟨⟨⟨_, HBB.out⟩, rfl⟩, ?_⟩
  go_wp2_with fail
  refine (implMac_any key (srcB v l p) 32 hk hkb w.heap.size 0 32 _ w3 (fun j hj => by rw [Nat.zero_add]; exact RowAt.cell (show RowAt w3 _ .u8 key _ from K3.out) j (by omega)) PO.out (by have := HSL.out; omega) (HT.out.later B3.out (Nat.le_refl _)) Bo HBO).mono ?_
  rintro e w4 ⟨rfl, hb4⟩
  have Z4 : Hid _ := (hb4.block _ hs3).trans Z3.out
  have B4 : Hid (Below w.heap.size w w4) := B3.out.trans (hb4.mono B3.out.size)
  have HBB4 : Hid (Below W.heap.size W w4) := HBB.out.trans (hb4.mono HBB.out.size)
  clear hb4 K3 Z3 B3 HCL PO HBB
  go_wp2_with fail
  refine ⟨⟨⟨_, HBB4.out⟩, rfl⟩, ?_⟩
  refine wpList_put_row rfl 29 (.tmp 4) (.tmp 8) rfl (w.heap.size + 1 + 1) (Iv .u8 Bo) rfl rfl _ _ Z4.out hi16.out hz16.out (Iv_one _ _) ?_
  intro W9 hP9
  simp only [Act.put]
  have h9 := hP9.here
  have B9 : Below w.heap.size w W9 := hP9.below _ _ B4.out (by omega)
  clear hP9 Z4 B4 HBB4
  go_wp2_with fail
  refine last_normal ?_
  go_wp2
  exact bodyPost_ret (v := .agg (Iv .u8 Bo)) (results_cell_row rfl _ _ _ _ (Iv .u8 Bo) _ _ rfl h9 Tryd.underlying29 rfl hi16.out) rfl ⟨rfl, B9⟩
end Go.Proofs.YtgpjdbkdnojbhaaDoor
