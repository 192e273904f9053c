import Derived.Test.YtbfjnepmhbnnjaaT10
import Derived.Test.YtbfjnepmhbnnjaaPiece
namespace Go.Proofs.Ytbfjnepmhbnnjaa
open Go.RowKit
set_option linter.unusedVariables false

set_option maxHeartbeats 4000000 in
theorem piece_any (zs : List Int) (m : Nat) (hm : zs.length = m) (h1 : 1 ≤ m) (h16 : m ≤ 16) (hz : Bytes zs) (b o cap : Nat) (w : World) (hb : b < w.heap.size) (hcap : m ≤ cap) (hcap2 : cap ≤ 9223372036854775807)
    (hc : ∀ i, i < m → w.cell? ⟨b, o + i, none⟩ = some (.int .u8 (zs.getD i 0))) :
    Calls Try.prog 14 #[.slice (some ⟨b, o, none⟩) m cap] w fun e w' => ∃ r0 r1 r2 r3 r4, e = .returned (.agg #[.int .u64 r0, .int .u64 r1, .int .u64 r2, .int .u64 r3, .int .u64 r4]) ∧ Limbs r0 r1 r2 r3 r4 ∧ V5 r0 r1 r2 r3 r4 = num8 zs + 256 ^ m ∧ Below w.heap.size w w' := by
  have hP := piece_ok zs hz (by omega) (by omega)
  go_enter Try.func14, Try.ntmps14
  go_wp2_with fail
  refine (loadWords_at m (w.heap.size + 1) 0 5 5 50 [0, 0, 0, 0, 0] b o cap zs _ hm ?_ (by decide) (by decide) (by omega) hz (by omega) (by omega) ?_ hcap hcap2).mono ?_
  · simp only [heapAt, World.size_alloc]
    simp
    rfl
  · intro i hi
    rw [World.cell?_alloc_past _ _ _ (by simp <;> omega), World.cell?_alloc_past _ _ _ hb]
    exact hc i hi
  rintro e w1 ⟨rfl, d, rfl⟩
  have hput : putFrom [0, 0, 0, 0, 0] 0 (wordAt zs) (min (m / 4 + 1) 5) = [wordAt zs 0, wordAt zs 1, wordAt zs 2, wordAt zs 3, wordAt zs 4] := by
    apply List.ext_getElem?
    intro i
    rw [putFrom_get _ _ _ _ _ (by simp <;> omega)]
    by_cases hi : i < 5
    · by_cases hi2 : i < m / 4 + 1
      · rw [if_pos (by omega)]
        match i, hi with
        | 0, _ => rfl
        | 1, _ => rfl
        | 2, _ => rfl
        | 3, _ => rfl
        | 4, _ => rfl
      · rw [if_neg (by omega)]
        have := word_past zs i (by omega)
        match i, hi, this with
        | 0, _, h => simp [h]
        | 1, _, h => simp [h]
        | 2, _, h => simp [h]
        | 3, _, h => simp [h]
        | 4, _, h => simp [h]
    · rw [if_neg (by omega), List.getElem?_eq_none (by simp <;> omega), List.getElem?_eq_none (by simp <;> omega)]
  rw [setRow_at _ _ _ _ _ (by simp), hput]
  have hc4 : (Iv .u32 [wordAt zs 0, wordAt zs 1, wordAt zs 2, wordAt zs 3, wordAt zs 4])[m / 4]? = some (.int .u32 (wordAt zs (m / 4))) := by
    have h5 : m / 4 < 5 := by omega
    generalize m / 4 = q at h5
    match q, h5 with
    | 0, _ => rfl
    | 1, _ => rfl
    | 2, _ => rfl
    | 3, _ => rfl
    | 4, _ => rfl
  have hpow : (2 : Int) ^ (8 * (m % 4)) % 4294967296 = 2 ^ (8 * (m % 4)) := by
    have h4 : m % 4 < 4 := by omega
    generalize m % 4 = q at h4
    match q, h4 with
    | 0, _ => rfl
    | 1, _ => rfl
    | 2, _ => rfl
    | 3, _ => rfl
  obtain ⟨v0, v1, v2, v3, v4, hw, q0, s0, q1, s1, q2, s2, q3, s3, q4, s4, hval⟩ := hP
  have hgL : ∀ n, ((((w.alloc (.cells #[.int .u64 0, .int .u64 0, .int .u64 0, .int .u64 0, .int .u64 0] 36)).alloc (.cells (Iv .u32 [wordAt zs 0, wordAt zs 1, wordAt zs 2, wordAt zs 3, wordAt zs 4]) 50)).drewN n).setCell ⟨w.heap.size + 1, m / 4, none⟩ (.int .u32 (bits .or .u32 (wordAt zs (m / 4)) (2 ^ (8 * (m % 4)))))).heap[w.heap.size + 1]? = some (.cells #[.int .u32 v0, .int .u32 v1, .int .u32 v2, .int .u32 v3, .int .u32 v4] 50) := by
    intro n
    rw [heap_setCell_same (hg := by rw [World.heap_drewN, heapAt, if_pos (by simp)]), Iv_set]
    have : ([wordAt zs 0, wordAt zs 1, wordAt zs 2, wordAt zs 3, wordAt zs 4]).set (m / 4) (bits .or .u32 (wordAt zs (m / 4)) (2 ^ (8 * (m % 4)))) = [v0, v1, v2, v3, v4] := by rw [← hw, pieceWords, hm]
    rw [this]
    rfl
  have hbL : ∀ n v, Below (w.heap.size + 1) (w.alloc (.cells #[.int .u64 0, .int .u64 0, .int .u64 0, .int .u64 0, .int .u64 0] 36)) ((((w.alloc (.cells #[.int .u64 0, .int .u64 0, .int .u64 0, .int .u64 0, .int .u64 0] 36)).alloc (.cells (Iv .u32 [wordAt zs 0, wordAt zs 1, wordAt zs 2, wordAt zs 3, wordAt zs 4]) 50)).drewN n).setCell ⟨w.heap.size + 1, m / 4, none⟩ v) := fun n v =>
    (below_drews ((Below.refl _ _).alloc (by simp) _) n).setCell (by simp) _
  have HB : Hid (∀ n v, _) := hbL
  have HG : Hid (∀ n, _) := hgL
  have HV : Hid (_ = _) := hval
  have HM : Hid (zs.length = m) := hm
  clear hc hput hbL hgL hval hm hw
  go_wp2
  refine wp_region_head 12 mixed (by kernel_rfl) ?_
  simp only [List.take_succ_cons, List.take_zero, List.drop_succ_cons, List.drop_zero]
  repeat (go_big_quiet_step (fail))
  refine wpQuiet_nil ?_
  go_wp2_with (refine wpList_load_row rfl 50 _ rfl _ rfl _ _ _ _ (HG.out _) Try.underlying50 rfl info50 ?_)
  refine (limbs_val _ _ _ _ _ _ q0 s0 q1 s1 q2 s2 q3 s3 q4 s4).mono ?_
  rintro e w1 ⟨r0, r1, r2, r3, r4, rfl, ll, lv, hb1⟩
  have hbW := (HB.out _ _).trans (hb1.mono (by simp <;> omega))
  have hg : w1.heap[w.heap.size]? = some (.cells #[.int .u64 0, .int .u64 0, .int .u64 0, .int .u64 0, .int .u64 0] 36) := by
    rw [hbW.block _ (by omega)]
    simp only [heapAt]
    simp
  have hbb : Below w.heap.size w w1 := ((Below.refl w.heap.size w).alloc (by simp) _).trans (hbW.mono (by omega))
  have HV2 : Hid (V5 r0 r1 r2 r3 r4 = num8 zs + 256 ^ m) := by rw [← HM.out]; exact lv.trans HV.out
  clear hb1 hbW lv
  go_wp2_with (refine wpList_store_row rfl 36 _ _ rfl _ _ rfl rfl _ _ hg info36 rfl (one5 _ _ _ _ _ _) ?_)
  refine wpRet (cs := #[.int .u64 r0, .int .u64 r1, .int .u64 r2, .int .u64 r3, .int .u64 r4]) Try.results14 ?_ (setRow_heap _ _ _ _ _ _ hg) Try.underlying36 info36 ?_
  · rfl
  · exact ⟨_, _, _, _, _, rfl, ll, HV2.out, below_setRow hbb _ (by omega) _⟩
end Go.Proofs.Ytbfjnepmhbnnjaa
