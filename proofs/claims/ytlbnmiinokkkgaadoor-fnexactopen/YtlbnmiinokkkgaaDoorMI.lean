import Derived.Test.YtlbnmiinokkkgaaDoorRows
import Derived.Test.YtlbnmiinokkkgaaDoorBase
import Derived.Test.YtlbnmiinokkkgaaDoorNum
import Derived.Test.YtlbnmiinokkkgaaDoorMD
import Derived.Test.YtlbnmiinokkkgaaDoorMF
namespace Go.Proofs.YtlbnmiinokkkgaaDoor
open Go.RowKit
theorem info36 : (Tryd.prog.info? 84).map (·.size) = some 5 := by kernel_rfl
theorem mixed : Tryd.prog.follows .mixedOrders = true := by kernel_rfl

set_option maxHeartbeats 4000000 in
theorem carried_raw (a0 a1 a2 a3 a4 : Int) (w : World) (h0 : 0 ≤ a0) (g0 : a0 ≤ 576460752303423488) (h1 : 0 ≤ a1) (g1 : a1 ≤ 576460752303423488) (h2 : 0 ≤ a2) (g2 : a2 ≤ 576460752303423488) (h3 : 0 ≤ a3) (g3 : a3 ≤ 576460752303423488) (h4 : 0 ≤ a4) (g4 : a4 ≤ 576460752303423488) :
    Calls Tryd.prog 75 #[.agg #[.int .u64 a0, .int .u64 a1, .int .u64 a2, .int .u64 a3, .int .u64 a4]] w fun e w' => ∃ r0 r1 r2 r3 r4, e = .returned (.agg #[.int .u64 r0, .int .u64 r1, .int .u64 r2, .int .u64 r3, .int .u64 r4]) ∧ Car a0 a1 a2 a3 a4 r0 r1 r2 r3 r4 ∧ Below w.heap.size w w' := by
  go_enter Tryd.func75, Tryd.ntmps75
  go_wp2
  refine wp_loop_rounds 6 ?_
  iterate 6 (rw [rounds_succ]; go_wp2)
  refine bodyPost_ret (v := .agg #[.int .u64 _, .int .u64 _, .int .u64 _, .int .u64 _, .int .u64 _]) (by simp [results, Tryd.results75, go_sem]) rfl ⟨_, _, _, _, _, rfl, car_of a0 a1 a2 a3 a4 h0 g0 h1 g1 h2 g2 h3 g3 h4 g4, ?_⟩
  exact ((Below.refl _ _).alloc (by simp) _).alloc (by simp) _
end Go.Proofs.YtlbnmiinokkkgaaDoor
namespace Go.Proofs.YtlbnmiinokkkgaaDoor
open Go.RowKit
set_option linter.unusedVariables false

/-- Both halves of the low 128 bits. -/
theorem halves_num (a0 a1 a2 a3 a4 : Int) (h0 : 0 ≤ a0) (g0 : a0 < 67108864) (h1 : 0 ≤ a1) (g1 : a1 < 67108864) (h2 : 0 ≤ a2) (g2 : a2 < 67108864) (h3 : 0 ≤ a3) (g3 : a3 < 67108864) (h4 : 0 ≤ a4) (g4 : a4 < 67108864) :
    bits .or .u64 (bits .or .u64 a0 (IntKind.u64.wrap (a1 * 67108864))) (IntKind.u64.wrap (a2 * 4503599627370496)) = a0 + 67108864 * a1 + 4503599627370496 * (a2 % 4096) ∧
    bits .or .u64 (bits .or .u64 (a2 / 4096) (IntKind.u64.wrap (a3 * 16384))) (IntKind.u64.wrap (a4 * 1099511627776)) = a2 / 4096 + 16384 * a3 + 1099511627776 * (a4 % 16777216) := by
  have e1 : IntKind.u64.wrap (a1 * 67108864) = a1 * 67108864 := keep64 _ (by omega) (by omega)
  have e2 : IntKind.u64.wrap (a2 * 4503599627370496) = (a2 % 4096) * 4503599627370496 := by rw [IntKind.wrap_u64]; omega
  have e3 : IntKind.u64.wrap (a3 * 16384) = a3 * 16384 := keep64 _ (by omega) (by omega)
  have e4 : IntKind.u64.wrap (a4 * 1099511627776) = (a4 % 16777216) * 1099511627776 := by rw [IntKind.wrap_u64]; omega
  rw [e1, e2, e3, e4]
  rw [or64' 26 a0 (a1 * 67108864) (by decide) (by omega) (by omega) (by omega) (by omega) (by omega)]
  rw [or64' 52 (a0 + a1 * 67108864) ((a2 % 4096) * 4503599627370496) (by decide) (by omega) (by omega) (by omega) (by omega) (by omega)]
  rw [or64' 14 (a2 / 4096) (a3 * 16384) (by decide) (by omega) (by omega) (by omega) (by omega) (by omega)]
  rw [or64' 40 (a2 / 4096 + a3 * 16384) ((a4 % 16777216) * 1099511627776) (by decide) (by omega) (by omega) (by omega) (by omega) (by omega)]
  omega

set_option maxHeartbeats 1000000 in
theorem halves_any (a0 a1 a2 a3 a4 : Int) (w : World) (h0 : 0 ≤ a0) (g0 : a0 < 67108864) (h1 : 0 ≤ a1) (g1 : a1 < 67108864) (h2 : 0 ≤ a2) (g2 : a2 < 67108864) (h3 : 0 ≤ a3) (g3 : a3 < 67108864) (h4 : 0 ≤ a4) (g4 : a4 < 67108864) :
    Calls Tryd.prog 68 #[.agg #[.int .u64 a0, .int .u64 a1, .int .u64 a2, .int .u64 a3, .int .u64 a4]] w fun e w' =>
      e = .returned (.tuple #[.int .u64 (a0 + 67108864 * a1 + 4503599627370496 * (a2 % 4096)), .int .u64 (a2 / 4096 + 16384 * a3 + 1099511627776 * (a4 % 16777216))]) ∧ Below w.heap.size w w' := by
  have H := halves_num a0 a1 a2 a3 a4 h0 g0 h1 g1 h2 g2 h3 g3 h4 g4
  have H1 : Hid (_ ∧ _) := H
  clear H h0 g0 h1 g1 h2 g2 h3 g3 h4 g4
  go_enter Tryd.func68, Tryd.ntmps68
  go_wp2
  go_quiet (fail)
  go_wp2
  go_ret2
  obtain ⟨H2, H3⟩ := H1.out
  rw [H2, H3]
  exact ⟨rfl, below_drews ((Below.refl _ _).alloc (by simp) _) _⟩

/-- The limbs of five words. -/
theorem limbs_num (w0 w1 w2 w3 w4 : Int) (h0 : 0 ≤ w0) (g0 : w0 < 4294967296) (h1 : 0 ≤ w1) (g1 : w1 < 4294967296) (h2 : 0 ≤ w2) (g2 : w2 < 4294967296) (h3 : 0 ≤ w3) (g3 : w3 < 4294967296) (h4 : 0 ≤ w4) (g4 : w4 ≤ 1) :
    bits .and .u64 w0 67108863 = w0 % 67108864 ∧
    bits .and .u64 (bits .or .u64 (w0 / 67108864) (w1 * 64)) 67108863 = w0 / 67108864 + 64 * (w1 % 1048576) ∧
    bits .and .u64 (bits .or .u64 (w1 / 1048576) (w2 * 4096)) 67108863 = w1 / 1048576 + 4096 * (w2 % 16384) ∧
    bits .and .u64 (bits .or .u64 (w2 / 16384) (w3 * 262144)) 67108863 = w2 / 16384 + 262144 * (w3 % 256) ∧
    bits .or .u64 (w3 / 256) (w4 * 16777216) = w3 / 256 + 16777216 * w4 := by
  rw [and26 w0 h0 (by omega)]
  rw [or64' 6 (w0 / 67108864) (w1 * 64) (by decide) (by omega) (by omega) (by omega) (by omega) (by omega), and26 _ (by omega) (by omega)]
  rw [or64' 12 (w1 / 1048576) (w2 * 4096) (by decide) (by omega) (by omega) (by omega) (by omega) (by omega), and26 _ (by omega) (by omega)]
  rw [or64' 18 (w2 / 16384) (w3 * 262144) (by decide) (by omega) (by omega) (by omega) (by omega) (by omega), and26 _ (by omega) (by omega)]
  rw [or64' 24 (w3 / 256) (w4 * 16777216) (by decide) (by omega) (by omega) (by omega) (by omega) (by omega)]
  omega

set_option maxHeartbeats 1000000 in
theorem limbs_any (w0 w1 w2 w3 w4 : Int) (w : World) (h0 : 0 ≤ w0) (g0 : w0 < 4294967296) (h1 : 0 ≤ w1) (g1 : w1 < 4294967296) (h2 : 0 ≤ w2) (g2 : w2 < 4294967296) (h3 : 0 ≤ w3) (g3 : w3 < 4294967296) (h4 : 0 ≤ w4) (g4 : w4 ≤ 1) :
    Calls Tryd.prog 74 #[.agg #[.int .u32 w0, .int .u32 w1, .int .u32 w2, .int .u32 w3, .int .u32 w4]] w fun e w' =>
      e = .returned (.agg #[.int .u64 (w0 % 67108864), .int .u64 (w0 / 67108864 + 64 * (w1 % 1048576)), .int .u64 (w1 / 1048576 + 4096 * (w2 % 16384)), .int .u64 (w2 / 16384 + 262144 * (w3 % 256)), .int .u64 (w3 / 256 + 16777216 * w4)]) ∧ Below w.heap.size w w' := by
  have H := limbs_num w0 w1 w2 w3 w4 h0 g0 h1 g1 h2 g2 h3 g3 h4 g4
  have H1 : Hid (_ ∧ _ ∧ _ ∧ _ ∧ _) := H
  clear H
  go_enter Tryd.func74, Tryd.ntmps74
  go_wp2
  obtain ⟨H2, H3, H4, H5, H6⟩ := H1.out
  rw [H2, H3, H4, H5, H6]
  refine bodyPost_ret (v := .agg #[.int .u64 _, .int .u64 _, .int .u64 _, .int .u64 _, .int .u64 _]) (by simp [results, Tryd.results74, go_sem]) rfl ⟨rfl, ?_⟩
  exact ((Below.refl _ _).alloc (by simp) _).alloc (by simp) _
theorem limbs_val (w0 w1 w2 w3 w4 : Int) (w : World) (h0 : 0 ≤ w0) (g0 : w0 < 4294967296) (h1 : 0 ≤ w1) (g1 : w1 < 4294967296) (h2 : 0 ≤ w2) (g2 : w2 < 4294967296) (h3 : 0 ≤ w3) (g3 : w3 < 4294967296) (h4 : 0 ≤ w4) (g4 : w4 ≤ 1) :
    Calls Tryd.prog 74 #[.agg #[.int .u32 w0, .int .u32 w1, .int .u32 w2, .int .u32 w3, .int .u32 w4]] w fun e w' =>
      ∃ r0 r1 r2 r3 r4, e = .returned (.agg #[.int .u64 r0, .int .u64 r1, .int .u64 r2, .int .u64 r3, .int .u64 r4]) ∧ Limbs r0 r1 r2 r3 r4 ∧
        V5 r0 r1 r2 r3 r4 = w0 + 4294967296 * w1 + 18446744073709551616 * w2 + 79228162514264337593543950336 * w3 + 340282366920938463463374607431768211456 * w4 ∧ Below w.heap.size w w' := by
  refine (limbs_any w0 w1 w2 w3 w4 w h0 g0 h1 g1 h2 g2 h3 g3 h4 g4).mono ?_
  rintro e w' ⟨rfl, hb⟩
  obtain ⟨hv, hl⟩ := limbs_value w0 w1 w2 w3 w4 h0 g0 h1 g1 h2 g2 h3 g3 h4 g4
  exact ⟨_, _, _, _, _, rfl, hl, hv, hb⟩
end Go.Proofs.YtlbnmiinokkkgaaDoor
namespace Go.Proofs.YtlbnmiinokkkgaaDoor
open Go.RowKit
set_option linter.unusedVariables false
theorem info50 : (Tryd.prog.info? 99).map (·.size) = some 5 := by kernel_rfl

set_option maxHeartbeats 4000000 in
theorem factor_any (l : List Int) (hl : l.length = 32) (hz : Bytes l) (w : World) :
    Calls Tryd.prog 63 #[.agg (Iv .u8 l)] w fun e w' => ∃ r0 r1 r2 r3 r4, e = .returned (.agg #[.int .u64 r0, .int .u64 r1, .int .u64 r2, .int .u64 r3, .int .u64 r4]) ∧ Limbs r0 r1 r2 r3 r4 ∧ V5 r0 r1 r2 r3 r4 = rNum l ∧ Below w.heap.size w w' := by
  have hinfo22 : (Tryd.prog.info? 22).map (·.size) = some 32 := by kernel_rfl
  go_enter Tryd.func63, Tryd.ntmps63
  go_wp2
  refine wp_region_head 2 mixed (by kernel_rfl) ?_
  simp only [List.take_succ_cons, List.take_zero, List.drop_succ_cons, List.drop_zero]
  repeat (go_big_quiet_step (fail))
  refine wpQuiet_nil ?_
  go_wp2_with fail
  refine (loadWords_at 16 (w.heap.size + 1 + 1) 0 5 5 99 [0, 0, 0, 0, 0] w.heap.size 0 32 (l.take 16) _ (by simp [hl]) ?_ (by decide) (by decide) (by omega) (bytes_take hz 16) (by decide) (by decide) ?_ (by decide) (by decide)).mono ?_
  · simp only [heap_drew, heapAt, World.size_alloc]
    simp
    rfl
  · intro i hi
    have := Iv_get .u8 l i (by omega)
    simp only [World.cell?_drew]
    rw [World.cell?_alloc_past _ _ _ (by simp <;> omega), World.cell?_alloc_past _ _ _ (by simp <;> omega), World.cell?_alloc_at _ _ _ _ rfl, Nat.zero_add, this, getD_take, if_pos hi]
    simp [show i < l.length by omega]
  rintro e w1 ⟨rfl, d, rfl⟩
  rw [setRow_drew, setRow_at _ _ _ _ _ (by simp), show Iv .u32 (putFrom [0, 0, 0, 0, 0] 0 (wordAt (l.take 16)) (min (16 / 4 + 1) 5)) = #[.int .u32 (wordAt (l.take 16) 0), .int .u32 (wordAt (l.take 16) 1), .int .u32 (wordAt (l.take 16) 2), .int .u32 (wordAt (l.take 16) 3), .int .u32 (wordAt (l.take 16) 4)] from rfl]
  rw [word_take l 16 0 (by decide), word_take l 16 1 (by decide), word_take l 16 2 (by decide), word_take l 16 3 (by decide), word_past (l.take 16) 4 (by rw [List.length_take]; omega)]
  obtain ⟨h0, g0⟩ := word_in hz 0
  obtain ⟨h1, g1⟩ := word_in hz 1
  obtain ⟨h2, g2⟩ := word_in hz 2
  obtain ⟨h3, g3⟩ := word_in hz 3
  have HR : Hid (rNum l = wordAt l 0 % 268435456 + 4294967296 * (4 * (wordAt l 1 / 4 % 67108864)) + 18446744073709551616 * (4 * (wordAt l 2 / 4 % 67108864)) + 79228162514264337593543950336 * (4 * (wordAt l 3 / 4 % 67108864))) := rfl
  generalize wordAt l 0 = x0 at *
  generalize wordAt l 1 = x1 at *
  generalize wordAt l 2 = x2 at *
  generalize wordAt l 3 = x3 at *
  have e0 := and28 x0 h0 g0
  have e1 := and28c x1 h1 g1
  have e2 := and28c x2 h2 g2
  have e3 := and28c x3 h3 g3
  clear hz
  go_wp2
  refine wp_loop_rounds 4 ?_
  iterate 3 (rw [rounds_succ]; go_wp2)
  rw [rounds_succ]; go_wp2_with fail
  refine (limbs_val _ _ _ _ _ _ (by omega) (by omega) (by omega) (by omega) (by omega) (by omega) (by omega) (by omega) (by omega) (by omega)).mono ?_
  rintro e w1 ⟨r0, r1, r2, r3, r4, rfl, ll, lv, hb⟩
  have hbW : Below (w.heap.size + 1 + 1) ((w.alloc (.cells (Iv .u8 l) 22)).alloc (.cells #[.int .u64 0, .int .u64 0, .int .u64 0, .int .u64 0, .int .u64 0] 84)) w1 :=
    (((((below_drews ((Below.refl _ _).alloc (by simp) _) (1 + d)).setCell (by simp) _).setCell (by simp) _).setCell (by simp) _).setCell (by simp) _).trans (hb.mono (by simp <;> omega))
  have hg : w1.heap[w.heap.size + 1]? = some (.cells #[.int .u64 0, .int .u64 0, .int .u64 0, .int .u64 0, .int .u64 0] 84) := by
    rw [hbW.block _ (by omega)]
    simp only [heapAt, World.size_alloc]
    simp
  have hbb : Below w.heap.size w w1 := (((Below.refl w.heap.size w).alloc (by simp) _).alloc (by simp) _).trans (hbW.mono (by omega))
  have hv := lv.trans (show _ = rNum l by rw [HR.out]; omega)
  clear hb hbW lv e0 e1 e2 e3
  have HV : Hid (V5 r0 r1 r2 r3 r4 = rNum l) := hv
  clear hv
  go_wp2_with (refine wpList_store_row rfl 84 _ _ rfl _ _ rfl rfl _ _ hg info36 rfl (one5 _ _ _ _ _ _) ?_)
  refine wpRet (cs := #[.int .u64 r0, .int .u64 r1, .int .u64 r2, .int .u64 r3, .int .u64 r4]) Tryd.results63 ?_ (setRow_heap _ _ _ _ _ _ hg) Tryd.underlying84 info36 ?_
  · rfl
  · exact ⟨_, _, _, _, _, rfl, ll, HV.out, below_setRow hbb _ (by omega) _⟩
end Go.Proofs.YtlbnmiinokkkgaaDoor
namespace Go.Proofs.YtlbnmiinokkkgaaDoor
open Go.RowKit
set_option linter.unusedVariables false

set_option maxHeartbeats 4000000 in
theorem piece_any (zs : List Int) (m : Nat) (hm : zs.length = m) (h1 : 1 ≤ m) (h16 : m ≤ 16) (hz : Bytes zs) (b o cap : Nat) (w : World) (hb : b < w.heap.size) (hcap : m ≤ cap) (hcap2 : cap ≤ 9223372036854775807)
    (hc : ∀ i, i < m → w.cell? ⟨b, o + i, none⟩ = some (.int .u8 (zs.getD i 0))) :
    Calls Tryd.prog 65 #[.slice (some ⟨b, o, none⟩) m cap] w fun e w' => ∃ r0 r1 r2 r3 r4, e = .returned (.agg #[.int .u64 r0, .int .u64 r1, .int .u64 r2, .int .u64 r3, .int .u64 r4]) ∧ Limbs r0 r1 r2 r3 r4 ∧ V5 r0 r1 r2 r3 r4 = num8 zs + 256 ^ m ∧ Below w.heap.size w w' := by
  have hP := piece_ok zs hz (by omega) (by omega)
  go_enter Tryd.func65, Tryd.ntmps65
  go_wp2_with fail
  refine (loadWords_at m (w.heap.size + 1) 0 5 5 99 [0, 0, 0, 0, 0] b o cap zs _ hm ?_ (by decide) (by decide) (by omega) hz (by omega) (by omega) ?_ hcap hcap2).mono ?_
  · simp only [heapAt, World.size_alloc]
    simp
    rfl
  · intro i hi
    rw [World.cell?_alloc_past _ _ _ (by simp <;> omega), World.cell?_alloc_past _ _ _ hb]
    exact hc i hi
  rintro e w1 ⟨rfl, d, rfl⟩
  have hput : putFrom [0, 0, 0, 0, 0] 0 (wordAt zs) (min (m / 4 + 1) 5) = [wordAt zs 0, wordAt zs 1, wordAt zs 2, wordAt zs 3, wordAt zs 4] := by
    apply List.ext_getElem?
    intro i
    rw [putFrom_get _ _ _ _ _ (by simp <;> omega)]
    by_cases hi : i < 5
    · by_cases hi2 : i < m / 4 + 1
      · rw [if_pos (by omega)]
        match i, hi with
        | 0, _ => rfl
        | 1, _ => rfl
        | 2, _ => rfl
        | 3, _ => rfl
        | 4, _ => rfl
      · rw [if_neg (by omega)]
        have := word_past zs i (by omega)
        match i, hi, this with
        | 0, _, h => simp [h]
        | 1, _, h => simp [h]
        | 2, _, h => simp [h]
        | 3, _, h => simp [h]
        | 4, _, h => simp [h]
    · rw [if_neg (by omega), List.getElem?_eq_none (by simp <;> omega), List.getElem?_eq_none (by simp <;> omega)]
  rw [setRow_at _ _ _ _ _ (by simp), hput]
  have hc4 : (Iv .u32 [wordAt zs 0, wordAt zs 1, wordAt zs 2, wordAt zs 3, wordAt zs 4])[m / 4]? = some (.int .u32 (wordAt zs (m / 4))) := by
    have h5 : m / 4 < 5 := by omega
    generalize m / 4 = q at h5
    match q, h5 with
    | 0, _ => rfl
    | 1, _ => rfl
    | 2, _ => rfl
    | 3, _ => rfl
    | 4, _ => rfl
  have hpow : (2 : Int) ^ (8 * (m % 4)) % 4294967296 = 2 ^ (8 * (m % 4)) := by
    have h4 : m % 4 < 4 := by omega
    generalize m % 4 = q at h4
    match q, h4 with
    | 0, _ => rfl
    | 1, _ => rfl
    | 2, _ => rfl
    | 3, _ => rfl
  obtain ⟨v0, v1, v2, v3, v4, hw, q0, s0, q1, s1, q2, s2, q3, s3, q4, s4, hval⟩ := hP
  have hgL : ∀ n, ((((w.alloc (.cells #[.int .u64 0, .int .u64 0, .int .u64 0, .int .u64 0, .int .u64 0] 84)).alloc (.cells (Iv .u32 [wordAt zs 0, wordAt zs 1, wordAt zs 2, wordAt zs 3, wordAt zs 4]) 99)).drewN n).setCell ⟨w.heap.size + 1, m / 4, none⟩ (.int .u32 (bits .or .u32 (wordAt zs (m / 4)) (2 ^ (8 * (m % 4)))))).heap[w.heap.size + 1]? = some (.cells #[.int .u32 v0, .int .u32 v1, .int .u32 v2, .int .u32 v3, .int .u32 v4] 99) := by
    intro n
    rw [heap_setCell_same (hg := by rw [World.heap_drewN, heapAt, if_pos (by simp)]), Iv_set]
    have : ([wordAt zs 0, wordAt zs 1, wordAt zs 2, wordAt zs 3, wordAt zs 4]).set (m / 4) (bits .or .u32 (wordAt zs (m / 4)) (2 ^ (8 * (m % 4)))) = [v0, v1, v2, v3, v4] := by rw [← hw, pieceWords, hm]
    rw [this]
    rfl
  have hbL : ∀ n v, Below (w.heap.size + 1) (w.alloc (.cells #[.int .u64 0, .int .u64 0, .int .u64 0, .int .u64 0, .int .u64 0] 84)) ((((w.alloc (.cells #[.int .u64 0, .int .u64 0, .int .u64 0, .int .u64 0, .int .u64 0] 84)).alloc (.cells (Iv .u32 [wordAt zs 0, wordAt zs 1, wordAt zs 2, wordAt zs 3, wordAt zs 4]) 99)).drewN n).setCell ⟨w.heap.size + 1, m / 4, none⟩ v) := fun n v =>
    (below_drews ((Below.refl _ _).alloc (by simp) _) n).setCell (by simp) _
  have HB : Hid (∀ n v, _) := hbL
  have HG : Hid (∀ n, _) := hgL
  have HV : Hid (_ = _) := hval
  have HM : Hid (zs.length = m) := hm
  clear hc hput hbL hgL hval hm hw
  go_wp2
  refine wp_region_head 12 mixed (by kernel_rfl) ?_
  simp only [List.take_succ_cons, List.take_zero, List.drop_succ_cons, List.drop_zero]
  repeat (go_big_quiet_step (fail))
  refine wpQuiet_nil ?_
  go_wp2_with (refine wpList_load_row rfl 99 _ rfl _ rfl _ _ _ _ (HG.out _) Tryd.underlying99 rfl info50 ?_)
  refine (limbs_val _ _ _ _ _ _ q0 s0 q1 s1 q2 s2 q3 s3 q4 s4).mono ?_
  rintro e w1 ⟨r0, r1, r2, r3, r4, rfl, ll, lv, hb1⟩
  have hbW := (HB.out _ _).trans (hb1.mono (by simp <;> omega))
  have hg : w1.heap[w.heap.size]? = some (.cells #[.int .u64 0, .int .u64 0, .int .u64 0, .int .u64 0, .int .u64 0] 84) := by
    rw [hbW.block _ (by omega)]
    simp only [heapAt]
    simp
  have hbb : Below w.heap.size w w1 := ((Below.refl w.heap.size w).alloc (by simp) _).trans (hbW.mono (by omega))
  have HV2 : Hid (V5 r0 r1 r2 r3 r4 = num8 zs + 256 ^ m) := by rw [← HM.out]; exact lv.trans HV.out
  clear hb1 hbW lv
  go_wp2_with (refine wpList_store_row rfl 84 _ _ rfl _ _ rfl rfl _ _ hg info36 rfl (one5 _ _ _ _ _ _) ?_)
  refine wpRet (cs := #[.int .u64 r0, .int .u64 r1, .int .u64 r2, .int .u64 r3, .int .u64 r4]) Tryd.results65 ?_ (setRow_heap _ _ _ _ _ _ hg) Tryd.underlying84 info36 ?_
  · rfl
  · exact ⟨_, _, _, _, _, rfl, ll, HV2.out, below_setRow hbb _ (by omega) _⟩
end Go.Proofs.YtlbnmiinokkkgaaDoor
namespace Go.Proofs.YtlbnmiinokkkgaaDoor
open Go.RowKit

set_option maxHeartbeats 4000000 in
theorem add_any (a0 a1 a2 a3 a4 b0 b1 b2 b3 b4 : Int) (w : World) (h0 : 0 ≤ a0) (g0 : a0 ≤ 134217728) (k0 : 0 ≤ b0) (l0 : b0 ≤ 134217728) (h1 : 0 ≤ a1) (g1 : a1 ≤ 134217728) (k1 : 0 ≤ b1) (l1 : b1 ≤ 134217728) (h2 : 0 ≤ a2) (g2 : a2 ≤ 134217728) (k2 : 0 ≤ b2) (l2 : b2 ≤ 134217728) (h3 : 0 ≤ a3) (g3 : a3 ≤ 134217728) (k3 : 0 ≤ b3) (l3 : b3 ≤ 134217728) (h4 : 0 ≤ a4) (g4 : a4 ≤ 134217728) (k4 : 0 ≤ b4) (l4 : b4 ≤ 134217728) :
    Calls Tryd.prog 64 #[.agg #[.int .u64 a0, .int .u64 a1, .int .u64 a2, .int .u64 a3, .int .u64 a4], .agg #[.int .u64 b0, .int .u64 b1, .int .u64 b2, .int .u64 b3, .int .u64 b4]] w fun e w' => e = .returned (.agg #[.int .u64 (a0 + b0), .int .u64 (a1 + b1), .int .u64 (a2 + b2), .int .u64 (a3 + b3), .int .u64 (a4 + b4)]) ∧ Below w.heap.size w w' := by
  go_enter Tryd.func64, Tryd.ntmps64
  go_wp2
  refine wp_loop_rounds 6 ?_
  rw [rounds_succ]; go_wp2; refine wp_region_head 8 mixed (by kernel_rfl) ?_; simp only [List.take_succ_cons, List.take_zero, List.drop_succ_cons, List.drop_zero]; (repeat (go_big_quiet_step (fail))); refine wpQuiet_nil ?_; go_wp2
  rw [rounds_succ]; go_wp2; refine wp_region_head 8 mixed (by kernel_rfl) ?_; simp only [List.take_succ_cons, List.take_zero, List.drop_succ_cons, List.drop_zero]; (repeat (go_big_quiet_step (fail))); refine wpQuiet_nil ?_; go_wp2
  rw [rounds_succ]; go_wp2; refine wp_region_head 8 mixed (by kernel_rfl) ?_; simp only [List.take_succ_cons, List.take_zero, List.drop_succ_cons, List.drop_zero]; (repeat (go_big_quiet_step (fail))); refine wpQuiet_nil ?_; go_wp2
  rw [rounds_succ]; go_wp2; refine wp_region_head 8 mixed (by kernel_rfl) ?_; simp only [List.take_succ_cons, List.take_zero, List.drop_succ_cons, List.drop_zero]; (repeat (go_big_quiet_step (fail))); refine wpQuiet_nil ?_; go_wp2
  rw [rounds_succ]; go_wp2; refine wp_region_head 8 mixed (by kernel_rfl) ?_; simp only [List.take_succ_cons, List.take_zero, List.drop_succ_cons, List.drop_zero]; (repeat (go_big_quiet_step (fail))); refine wpQuiet_nil ?_; go_wp2
  rw [rounds_succ]; go_wp2
  refine bodyPost_ret (v := .agg #[.int .u64 _, .int .u64 _, .int .u64 _, .int .u64 _, .int .u64 _]) (by simp [results, Tryd.results64, go_sem]) rfl ⟨rfl, ?_⟩
  exact below_drews ((((Below.refl _ _).alloc (by simp) _).alloc (by simp) _).alloc (by simp; omega) _) 5
end Go.Proofs.YtlbnmiinokkkgaaDoor
namespace Go.Proofs.YtlbnmiinokkkgaaDoor
open Go.RowKit

theorem prod_in (a b : Int) (h : 0 ≤ a) (g : a ≤ 268435456) (k : 0 ≤ b) (l : b ≤ 67108863) : 0 ≤ a * b ∧ a * b ≤ 18014398509481984 := by
  refine ⟨Int.mul_nonneg h k, ?_⟩
  have h1 : a * b ≤ 268435456 * b := Int.mul_le_mul_of_nonneg_right g k
  omega
theorem prod5_in (a b : Int) (h : 0 ≤ a) (g : a ≤ 268435456) (k : 0 ≤ b) (l : b ≤ 67108863) : 0 ≤ 5 * a * b ∧ 5 * a * b ≤ 90071992547409920 := by
  refine ⟨Int.mul_nonneg (by omega) k, ?_⟩
  have h1 : 5 * a * b ≤ 1342177280 * b := Int.mul_le_mul_of_nonneg_right (by omega) k
  omega

set_option maxHeartbeats 20000000 in
theorem times_raw (a0 a1 a2 a3 a4 b0 b1 b2 b3 b4 : Int) (w : World) (h0 : 0 ≤ a0) (g0 : a0 ≤ 268435456) (k0 : 0 ≤ b0) (l0 : b0 ≤ 67108863) (h1 : 0 ≤ a1) (g1 : a1 ≤ 268435456) (k1 : 0 ≤ b1) (l1 : b1 ≤ 67108863) (h2 : 0 ≤ a2) (g2 : a2 ≤ 268435456) (k2 : 0 ≤ b2) (l2 : b2 ≤ 67108863) (h3 : 0 ≤ a3) (g3 : a3 ≤ 268435456) (k3 : 0 ≤ b3) (l3 : b3 ≤ 67108863) (h4 : 0 ≤ a4) (g4 : a4 ≤ 268435456) (k4 : 0 ≤ b4) (l4 : b4 ≤ 67108863) :
    Calls Tryd.prog 66 #[.agg #[.int .u64 a0, .int .u64 a1, .int .u64 a2, .int .u64 a3, .int .u64 a4], .agg #[.int .u64 b0, .int .u64 b1, .int .u64 b2, .int .u64 b3, .int .u64 b4]] w fun e w' => ∃ r0 r1 r2 r3 r4, e = .returned (.agg #[.int .u64 r0, .int .u64 r1, .int .u64 r2, .int .u64 r3, .int .u64 r4]) ∧ Car (a0 * b0 + 5 * a1 * b4 + 5 * a2 * b3 + 5 * a3 * b2 + 5 * a4 * b1) (a0 * b1 + a1 * b0 + 5 * a2 * b4 + 5 * a3 * b3 + 5 * a4 * b2) (a0 * b2 + a1 * b1 + a2 * b0 + 5 * a3 * b4 + 5 * a4 * b3) (a0 * b3 + a1 * b2 + a2 * b1 + a3 * b0 + 5 * a4 * b4) (a0 * b4 + a1 * b3 + a2 * b2 + a3 * b1 + a4 * b0) r0 r1 r2 r3 r4 ∧ Below w.heap.size w w' := by
  obtain ⟨u00, v00⟩ := prod_in a0 b0 h0 g0 k0 l0
  obtain ⟨u01, v01⟩ := prod_in a0 b1 h0 g0 k1 l1
  obtain ⟨u02, v02⟩ := prod_in a0 b2 h0 g0 k2 l2
  obtain ⟨u03, v03⟩ := prod_in a0 b3 h0 g0 k3 l3
  obtain ⟨u04, v04⟩ := prod_in a0 b4 h0 g0 k4 l4
  obtain ⟨u10, v10⟩ := prod_in a1 b0 h1 g1 k0 l0
  obtain ⟨u11, v11⟩ := prod_in a1 b1 h1 g1 k1 l1
  obtain ⟨u12, v12⟩ := prod_in a1 b2 h1 g1 k2 l2
  obtain ⟨u13, v13⟩ := prod_in a1 b3 h1 g1 k3 l3
  obtain ⟨u14, v14⟩ := prod5_in a1 b4 h1 g1 k4 l4
  obtain ⟨u20, v20⟩ := prod_in a2 b0 h2 g2 k0 l0
  obtain ⟨u21, v21⟩ := prod_in a2 b1 h2 g2 k1 l1
  obtain ⟨u22, v22⟩ := prod_in a2 b2 h2 g2 k2 l2
  obtain ⟨u23, v23⟩ := prod5_in a2 b3 h2 g2 k3 l3
  obtain ⟨u24, v24⟩ := prod5_in a2 b4 h2 g2 k4 l4
  obtain ⟨u30, v30⟩ := prod_in a3 b0 h3 g3 k0 l0
  obtain ⟨u31, v31⟩ := prod_in a3 b1 h3 g3 k1 l1
  obtain ⟨u32, v32⟩ := prod5_in a3 b2 h3 g3 k2 l2
  obtain ⟨u33, v33⟩ := prod5_in a3 b3 h3 g3 k3 l3
  obtain ⟨u34, v34⟩ := prod5_in a3 b4 h3 g3 k4 l4
  obtain ⟨u40, v40⟩ := prod_in a4 b0 h4 g4 k0 l0
  obtain ⟨u41, v41⟩ := prod5_in a4 b1 h4 g4 k1 l1
  obtain ⟨u42, v42⟩ := prod5_in a4 b2 h4 g4 k2 l2
  obtain ⟨u43, v43⟩ := prod5_in a4 b3 h4 g4 k3 l3
  obtain ⟨u44, v44⟩ := prod5_in a4 b4 h4 g4 k4 l4
  go_enter Tryd.func66, Tryd.ntmps66
  go_wp2
  refine wp_loop_rounds 6 ?_
  rw [rounds_succ]; go_wp2; refine wp_loop_rounds 6 ?_
  rw [rounds_succ]; go_wp2; refine wp_region_head 14 mixed (by kernel_rfl) ?_; simp only [List.take_succ_cons, List.take_zero, List.drop_succ_cons, List.drop_zero]; (repeat (go_big_quiet_step (fail))); refine wpQuiet_nil ?_; go_wp2
  rw [rounds_succ]; go_wp2; refine wp_region_head 14 mixed (by kernel_rfl) ?_; simp only [List.take_succ_cons, List.take_zero, List.drop_succ_cons, List.drop_zero]; (repeat (go_big_quiet_step (fail))); refine wpQuiet_nil ?_; go_wp2
  rw [rounds_succ]; go_wp2; refine wp_region_head 14 mixed (by kernel_rfl) ?_; simp only [List.take_succ_cons, List.take_zero, List.drop_succ_cons, List.drop_zero]; (repeat (go_big_quiet_step (fail))); refine wpQuiet_nil ?_; go_wp2
  rw [rounds_succ]; go_wp2; refine wp_region_head 14 mixed (by kernel_rfl) ?_; simp only [List.take_succ_cons, List.take_zero, List.drop_succ_cons, List.drop_zero]; (repeat (go_big_quiet_step (fail))); refine wpQuiet_nil ?_; go_wp2
  rw [rounds_succ]; go_wp2; refine wp_region_head 14 mixed (by kernel_rfl) ?_; simp only [List.take_succ_cons, List.take_zero, List.drop_succ_cons, List.drop_zero]; (repeat (go_big_quiet_step (fail))); refine wpQuiet_nil ?_; go_wp2
  rw [rounds_succ]; go_wp2
  rw [rounds_succ]; go_wp2; refine wp_loop_rounds 6 ?_
  rw [rounds_succ]; go_wp2; refine wp_region_head 14 mixed (by kernel_rfl) ?_; simp only [List.take_succ_cons, List.take_zero, List.drop_succ_cons, List.drop_zero]; (repeat (go_big_quiet_step (fail))); refine wpQuiet_nil ?_; go_wp2
  rw [rounds_succ]; go_wp2; refine wp_region_head 14 mixed (by kernel_rfl) ?_; simp only [List.take_succ_cons, List.take_zero, List.drop_succ_cons, List.drop_zero]; (repeat (go_big_quiet_step (fail))); refine wpQuiet_nil ?_; go_wp2
  rw [rounds_succ]; go_wp2; refine wp_region_head 14 mixed (by kernel_rfl) ?_; simp only [List.take_succ_cons, List.take_zero, List.drop_succ_cons, List.drop_zero]; (repeat (go_big_quiet_step (fail))); refine wpQuiet_nil ?_; go_wp2
  rw [rounds_succ]; go_wp2; refine wp_region_head 14 mixed (by kernel_rfl) ?_; simp only [List.take_succ_cons, List.take_zero, List.drop_succ_cons, List.drop_zero]; (repeat (go_big_quiet_step (fail))); refine wpQuiet_nil ?_; go_wp2
  rw [rounds_succ]; go_wp2; refine wp_region_head 16 mixed (by kernel_rfl) ?_; simp only [List.take_succ_cons, List.take_zero, List.drop_succ_cons, List.drop_zero]; (repeat (go_big_quiet_step (fail))); refine wpQuiet_nil ?_; go_wp2
  rw [rounds_succ]; go_wp2
  rw [rounds_succ]; go_wp2; refine wp_loop_rounds 6 ?_
  rw [rounds_succ]; go_wp2; refine wp_region_head 14 mixed (by kernel_rfl) ?_; simp only [List.take_succ_cons, List.take_zero, List.drop_succ_cons, List.drop_zero]; (repeat (go_big_quiet_step (fail))); refine wpQuiet_nil ?_; go_wp2
  rw [rounds_succ]; go_wp2; refine wp_region_head 14 mixed (by kernel_rfl) ?_; simp only [List.take_succ_cons, List.take_zero, List.drop_succ_cons, List.drop_zero]; (repeat (go_big_quiet_step (fail))); refine wpQuiet_nil ?_; go_wp2
  rw [rounds_succ]; go_wp2; refine wp_region_head 14 mixed (by kernel_rfl) ?_; simp only [List.take_succ_cons, List.take_zero, List.drop_succ_cons, List.drop_zero]; (repeat (go_big_quiet_step (fail))); refine wpQuiet_nil ?_; go_wp2
  rw [rounds_succ]; go_wp2; refine wp_region_head 16 mixed (by kernel_rfl) ?_; simp only [List.take_succ_cons, List.take_zero, List.drop_succ_cons, List.drop_zero]; (repeat (go_big_quiet_step (fail))); refine wpQuiet_nil ?_; go_wp2
  rw [rounds_succ]; go_wp2; refine wp_region_head 16 mixed (by kernel_rfl) ?_; simp only [List.take_succ_cons, List.take_zero, List.drop_succ_cons, List.drop_zero]; (repeat (go_big_quiet_step (fail))); refine wpQuiet_nil ?_; go_wp2
  rw [rounds_succ]; go_wp2
  rw [rounds_succ]; go_wp2; refine wp_loop_rounds 6 ?_
  rw [rounds_succ]; go_wp2; refine wp_region_head 14 mixed (by kernel_rfl) ?_; simp only [List.take_succ_cons, List.take_zero, List.drop_succ_cons, List.drop_zero]; (repeat (go_big_quiet_step (fail))); refine wpQuiet_nil ?_; go_wp2
  rw [rounds_succ]; go_wp2; refine wp_region_head 14 mixed (by kernel_rfl) ?_; simp only [List.take_succ_cons, List.take_zero, List.drop_succ_cons, List.drop_zero]; (repeat (go_big_quiet_step (fail))); refine wpQuiet_nil ?_; go_wp2
  rw [rounds_succ]; go_wp2; refine wp_region_head 16 mixed (by kernel_rfl) ?_; simp only [List.take_succ_cons, List.take_zero, List.drop_succ_cons, List.drop_zero]; (repeat (go_big_quiet_step (fail))); refine wpQuiet_nil ?_; go_wp2
  rw [rounds_succ]; go_wp2; refine wp_region_head 16 mixed (by kernel_rfl) ?_; simp only [List.take_succ_cons, List.take_zero, List.drop_succ_cons, List.drop_zero]; (repeat (go_big_quiet_step (fail))); refine wpQuiet_nil ?_; go_wp2
  rw [rounds_succ]; go_wp2; refine wp_region_head 16 mixed (by kernel_rfl) ?_; simp only [List.take_succ_cons, List.take_zero, List.drop_succ_cons, List.drop_zero]; (repeat (go_big_quiet_step (fail))); refine wpQuiet_nil ?_; go_wp2
  rw [rounds_succ]; go_wp2
  rw [rounds_succ]; go_wp2; refine wp_loop_rounds 6 ?_
  rw [rounds_succ]; go_wp2; refine wp_region_head 14 mixed (by kernel_rfl) ?_; simp only [List.take_succ_cons, List.take_zero, List.drop_succ_cons, List.drop_zero]; (repeat (go_big_quiet_step (fail))); refine wpQuiet_nil ?_; go_wp2
  rw [rounds_succ]; go_wp2; refine wp_region_head 16 mixed (by kernel_rfl) ?_; simp only [List.take_succ_cons, List.take_zero, List.drop_succ_cons, List.drop_zero]; (repeat (go_big_quiet_step (fail))); refine wpQuiet_nil ?_; go_wp2
  rw [rounds_succ]; go_wp2; refine wp_region_head 16 mixed (by kernel_rfl) ?_; simp only [List.take_succ_cons, List.take_zero, List.drop_succ_cons, List.drop_zero]; (repeat (go_big_quiet_step (fail))); refine wpQuiet_nil ?_; go_wp2
  rw [rounds_succ]; go_wp2; refine wp_region_head 16 mixed (by kernel_rfl) ?_; simp only [List.take_succ_cons, List.take_zero, List.drop_succ_cons, List.drop_zero]; (repeat (go_big_quiet_step (fail))); refine wpQuiet_nil ?_; go_wp2
  rw [rounds_succ]; go_wp2; refine wp_region_head 16 mixed (by kernel_rfl) ?_; simp only [List.take_succ_cons, List.take_zero, List.drop_succ_cons, List.drop_zero]; (repeat (go_big_quiet_step (fail))); refine wpQuiet_nil ?_; go_wp2
  rw [rounds_succ]; go_wp2
  rw [rounds_succ]; go_wp2_with fail
  refine (carried_raw _ _ _ _ _ _ (by omega) (by omega) (by omega) (by omega) (by omega) (by omega) (by omega) (by omega) (by omega) (by omega)).mono ?_
  rintro e w1 ⟨r0, r1, r2, r3, r4, rfl, hcar, hb⟩
  have hg : w1.heap[w.heap.size + 1 + 1]? = some (.cells #[.int .u64 0, .int .u64 0, .int .u64 0, .int .u64 0, .int .u64 0] 84) := by
    rw [hb.block _ (by simp <;> omega)]
    simp only [heap_drew, heapAt, World.size_alloc]
    simp
  have hbb : Below w.heap.size w w1 := (below_drews (((((Below.refl w.heap.size w).alloc (by simp) _).alloc (by simp) _).alloc (by simp; omega) _).alloc (by simp; omega) _) 25).trans (hb.mono (by simp; omega))
  clear hb
  go_wp2_with (refine wpList_store_row rfl 84 _ _ rfl _ #[.int .u64 r0, .int .u64 r1, .int .u64 r2, .int .u64 r3, .int .u64 r4] rfl rfl _ _ hg info36 rfl (one5 _ _ _ _ _ _) ?_)
  refine wpRet (cs := #[.int .u64 r0, .int .u64 r1, .int .u64 r2, .int .u64 r3, .int .u64 r4]) Tryd.results66 ?_ (setRow_heap _ _ _ _ _ _ hg) Tryd.underlying84 info36 ?_
  · rfl
  · exact ⟨r0, r1, r2, r3, r4, rfl, hcar, below_setRow hbb _ (by omega) _⟩
end Go.Proofs.YtlbnmiinokkkgaaDoor
namespace Go.Proofs.YtlbnmiinokkkgaaDoor
open Go.RowKit
set_option linter.unusedVariables false

set_option maxHeartbeats 4000000 in
theorem reduced_any (a0 a1 a2 a3 a4 : Int) (w : World) (h0 : 0 ≤ a0) (g0 : a0 ≤ 67108863) (h1 : 0 ≤ a1) (g1 : a1 ≤ 67109888) (h2 : 0 ≤ a2) (g2 : a2 ≤ 67108863) (h3 : 0 ≤ a3) (g3 : a3 ≤ 67108863) (h4 : 0 ≤ a4) (g4 : a4 ≤ 67108863) :
    Calls Tryd.prog 67 #[.agg #[.int .u64 a0, .int .u64 a1, .int .u64 a2, .int .u64 a3, .int .u64 a4]] w fun e w' => ∃ r0 r1 r2 r3 r4, e = .returned (.agg #[.int .u64 r0, .int .u64 r1, .int .u64 r2, .int .u64 r3, .int .u64 r4]) ∧ Limbs r0 r1 r2 r3 r4 ∧ (∃ q, V5 r0 r1 r2 r3 r4 = V5 a0 a1 a2 a3 a4 - P130 * q) ∧ V5 r0 r1 r2 r3 r4 < P130 ∧ Below w.heap.size w w' := by
  go_enter Tryd.func67, Tryd.ntmps67
  go_wp2_with fail
  refine (carried_raw _ _ _ _ _ _ (by omega) (by omega) (by omega) (by omega) (by omega) (by omega) (by omega) (by omega) (by omega) (by omega)).mono ?_
  rintro e w1 ⟨r0, r1, r2, r3, r4, rfl, hcar, hb⟩
  obtain ⟨p0, q0, p1, q1, p2, q2, p3, q3, p4, q4⟩ := car_twice hcar h0 g0 h1 g1 h2 g2 h3 g3 h4 g4
  have hg : w1.heap[w.heap.size]? = some (.cells #[.int .u64 a0, .int .u64 a1, .int .u64 a2, .int .u64 a3, .int .u64 a4] 84) := by
    rw [hb.block _ (by simp <;> omega)]
    simp only [heapAt, World.size_alloc]
    simp
  have hg1 : w1.heap[w.heap.size + 1]? = some (.cells #[.int .u64 0, .int .u64 0, .int .u64 0, .int .u64 0, .int .u64 0] 84) := by
    rw [hb.block _ (by simp <;> omega)]
    simp only [heapAt, World.size_alloc]
    simp
  have hb0 : Below w.heap.size w w1 := ((((Below.refl w.heap.size w).alloc (by simp) _).alloc (by simp) _)).trans (hb.mono (by simp <;> omega))
  have hsz : w.heap.size + 2 ≤ w1.heap.size := by have := hb.size; simpa using this
  clear hb
  go_wp2_with (first | refine wpList_store_row rfl 84 _ _ rfl _ #[.int .u64 r0, .int .u64 r1, .int .u64 r2, .int .u64 r3, .int .u64 r4] rfl rfl _ _ hg info36 rfl (one5 _ _ _ _ _ _) ?_ | refine wpList_load_row rfl 84 _ rfl _ rfl _ _ _ _ (setRow_heap _ _ _ _ _ _ hg) Tryd.underlying84 rfl info36 ?_)
  refine wp_loop_rounds 6 ?_
  iterate 5 (rw [rounds_succ]; go_wp2)
  have hz1 : ∀ o, ((w1.setRow w.heap.size #[.int .u64 r0, .int .u64 r1, .int .u64 r2, .int .u64 r3, .int .u64 r4]).alloc o).heap[w.heap.size + 1]? = some (.cells #[.int .u64 0, .int .u64 0, .int .u64 0, .int .u64 0, .int .u64 0] 84) := by
    intro o
    rw [heapAt, if_neg (by simp <;> omega), setRow_far _ _ _ _ (by omega)]
    exact hg1
  have hz0 : ∀ o, ((w1.setRow w.heap.size #[.int .u64 r0, .int .u64 r1, .int .u64 r2, .int .u64 r3, .int .u64 r4]).alloc o).heap[w.heap.size]? = some (.cells #[.int .u64 r0, .int .u64 r1, .int .u64 r2, .int .u64 r3, .int .u64 r4] 84) := by
    intro o
    rw [heapAt, if_neg (by simp <;> omega)]
    exact setRow_heap _ _ _ _ _ _ hg
  have hbo : ∀ o cs, Below w.heap.size w (((w1.setRow w.heap.size #[.int .u64 r0, .int .u64 r1, .int .u64 r2, .int .u64 r3, .int .u64 r4]).alloc o).setRow (w.heap.size + 1) cs) := fun o cs =>
    below_setRow ((below_setRow hb0 _ (Nat.le_refl _) _).alloc (by simp <;> omega) o) _ (by omega) cs
  have hn := reduce_num r0 r1 r2 r3 r4 p0 q0 p1 q1 p2 q2 p3 q3 p4 q4 _ rfl
  have HN : Hid (_ ∧ _) := hn
  have HB : Hid (∀ o cs, _) := hbo
  have HV : Hid (∃ q, _) := car_value hcar
  clear hn hbo hcar
  rw [rounds_succ]
  go_wp2_with (first | refine wpList_load_row rfl 84 _ rfl w.heap.size rfl _ _ _ _ (hz0 _) Tryd.underlying84 rfl info36 ?_ | refine wpList_store_row rfl 84 _ _ rfl (w.heap.size + 1) _ rfl rfl _ _ (hz1 _) info36 rfl (one5 _ _ _ _ _ _) ?_)
  · have hpos : 0 < (r4 + (r3 + (r2 + (r1 + (r0 + 5) / 67108864) / 67108864) / 67108864) / 67108864) / 67108864 := by assumption
    obtain ⟨q, hq⟩ := HV.out
    obtain ⟨v1, v2⟩ := HN.out.1 hpos
    have v3 := HN.out.2.2.1
    refine wpRet (cs := #[.int .u64 _, .int .u64 _, .int .u64 _, .int .u64 _, .int .u64 _]) Tryd.results67 ?_ (setRow_heap _ _ _ _ _ _ (hz1 _)) Tryd.underlying84 info36 ?_
    · rfl
    · refine ⟨_, _, _, _, _, rfl, ?_, ⟨q + 1, by rw [v1, hq]; unfold P130; omega⟩, by rw [v1]; unfold P130 at *; omega, HB.out _ _⟩
      rw [and26 _ (by omega) (by omega), and26 _ (by omega) (by omega), and26 _ (by omega) (by omega), and26 _ (by omega) (by omega), and26 _ (by omega) (by omega)]
      unfold Limbs
      omega
  · have hneg : ¬ 0 < (r4 + (r3 + (r2 + (r1 + (r0 + 5) / 67108864) / 67108864) / 67108864) / 67108864) / 67108864 := by first | assumption | omega
    obtain ⟨q, hq⟩ := HV.out
    refine wpRet (cs := #[.int .u64 _, .int .u64 _, .int .u64 _, .int .u64 _, .int .u64 _]) Tryd.results67 ?_ (setRow_heap _ _ _ _ _ _ (hz1 _)) Tryd.underlying84 info36 ?_
    · rfl
    · exact ⟨_, _, _, _, _, rfl, ⟨p0, q0, p1, q1, p2, q2, p3, q3, p4, q4⟩, ⟨q, hq⟩, HN.out.2.1 (by omega), HB.out _ _⟩
end Go.Proofs.YtlbnmiinokkkgaaDoor
