/- The stamp of a clock: the program's way. -/
import Derived.Test.YtmlhbeljepjdfaaBig32
import Derived.Test.YtmlhbeljepjdfaaBig64
import Derived.Test.YtmlhbeljepjdfaaToA12
namespace Go.Proofs.Ytmlhbeljepjdfaa
open Go.RowKit
set_option linter.unusedVariables false

def bigL (v : Int) (n : Nat) : List Int := (List.range n).map fun i => v / 256 ^ (n - 1 - i) % 256
theorem bigL_length (v : Int) (n : Nat) : (bigL v n).length = n := by simp [bigL]
def zero12 : List Int := List.replicate 12 0
def taiL (m : Int) : List Int := bigL (4611686018427387914 + m / 1000000000) 8 ++ bigL (m % 1000000000) 4
theorem taiL_length (m : Int) : (taiL m).length = 12 := by simp [taiL, bigL]
theorem tai_rows (T R : Int) : putFrom (putFrom zero12 0 (fun i => T / 256 ^ (8 - 1 - i) % 256) 8) 8 (fun i => R / 256 ^ (4 - 1 - i) % 256) 4 = bigL T 8 ++ bigL R 4 := by
  simp [putFrom, bigL, zero12, List.range_succ]

set_option maxHeartbeats 1000000 in
theorem implTaiOf_pos (now : Int) (h0 : -9223372036854775808 ≤ now) (h1 : now ≤ 9223372036854775807) (hs0 : 0 ≤ now) (w : World) :
    Calls Try.prog 12 #[.int .i64 now] w fun e w' => e = .returned (.agg (Iv .u8 (taiL now))) ∧ Below w.heap.size w w' := by
  have Hz : Hid ((#[.int .u8 0, .int .u8 0, .int .u8 0, .int .u8 0, .int .u8 0, .int .u8 0, .int .u8 0, .int .u8 0, .int .u8 0, .int .u8 0, .int .u8 0, .int .u8 0] : Array Value) = Iv .u8 zero12) := rfl
  have hlen := taiL_length now
  go_enter Try.func12, Try.ntmps12
  go_wp2_with fail
  rw [Hz.out]
  obtain ⟨W, hW, g0, g1, hs, hb⟩ := alloc2 w (.cells (Iv .u8 zero12) 22) (.cells (Iv .u8 zero12) 22)
  rw [hW]
  clear hW
  refine (putBig64_any (w.heap.size + 1) 0 8 12 22 zero12 (4611686018427387914 + now / 1000000000) W g1 (by simp [zero12]) (by decide) (by decide) (by omega)).mono ?_
  rintro e w1 ⟨rfl, hP⟩
  have G0 : Hid (w1.heap[w.heap.size]? = some (.cells (Iv .u8 zero12) 22)) := (hP.far _ (by omega)).trans g0
  clear g0 g1
  go_wp2_with fail
  refine (putBig32_any (w.heap.size + 1) 8 4 4 22 _ (now % 1000000000) w1 hP.here (by rw [putFrom_length _ _ _ _ (by simp [zero12])]; simp [zero12]) (by decide) (by decide) (by omega)).mono ?_
  rintro e w2 ⟨rfl, hQ⟩
  have G2 : Hid (w2.heap[w.heap.size + 1]? = some (.cells (Iv .u8 (taiL now)) 22)) := by
    show _ = _
    rw [hQ.here, tai_rows]
    rfl
  have G1 : Hid (w2.heap[w.heap.size]? = some (.cells (Iv .u8 zero12) 22)) := (hQ.far _ (by omega)).trans G0.out
  have HB : Hid (Below w.heap.size w w2) := hQ.below _ _ (hP.below _ _ hb (by omega)) (by omega)
  clear hP hQ
  go_wp2_with (first
    | refine wpList_load_row rfl 22 _ rfl (w.heap.size + 1) rfl _ (Iv .u8 (taiL now)) _ _ G2.out Try.underlying22 rfl ?hi ?_
    | refine wpList_put_row rfl 22 _ _ rfl w.heap.size (Iv .u8 (taiL now)) rfl rfl _ _ G1.out ?hi2 ?hs ?h1 ?_)
  case hi => rw [Iv_size, hlen]; exact infoA12
  case hi2 => rw [Iv_size, hlen]; exact infoA12
  case hs => rw [Iv_size, Iv_size, hlen]; rfl
  case h1 => exact Iv_one _ _
  intro W3 hP3
  go_wp2
  exact bodyPost_ret (v := .agg (Iv .u8 (taiL now))) (results_cell_row rfl _ _ _ _ (Iv .u8 (taiL now)) _ _ rfl hP3.here Try.underlying22 rfl (by rw [Iv_size, hlen]; exact infoA12)) rfl ⟨rfl, hP3.below _ _ HB.out (Nat.le_refl _)⟩
set_option maxHeartbeats 1000000 in
theorem implTaiOf_neg (now : Int) (h0 : -9223372036854775808 ≤ now) (h1 : now ≤ 9223372036854775807) (hs0 : now < 0) (w : World) :
    Calls Try.prog 12 #[.int .i64 now] w fun e w' => e = .returned (.agg (Iv .u8 (taiL 0))) ∧ Below w.heap.size w w' := by
  have Hz : Hid ((#[.int .u8 0, .int .u8 0, .int .u8 0, .int .u8 0, .int .u8 0, .int .u8 0, .int .u8 0, .int .u8 0, .int .u8 0, .int .u8 0, .int .u8 0, .int .u8 0] : Array Value) = Iv .u8 zero12) := rfl
  have hlen := taiL_length 0
  go_enter Try.func12, Try.ntmps12
  go_wp2_with fail
  rw [Hz.out]
  obtain ⟨W, hW, g0, g1, hs, hb⟩ := alloc2 w (.cells (Iv .u8 zero12) 22) (.cells (Iv .u8 zero12) 22)
  rw [hW]
  clear hW
  refine (putBig64_any (w.heap.size + 1) 0 8 12 22 zero12 4611686018427387914 W g1 (by simp [zero12]) (by decide) (by decide) (by omega)).mono ?_
  rintro e w1 ⟨rfl, hP⟩
  have G0 : Hid (w1.heap[w.heap.size]? = some (.cells (Iv .u8 zero12) 22)) := (hP.far _ (by omega)).trans g0
  clear g0 g1
  go_wp2_with fail
  refine (putBig32_any (w.heap.size + 1) 8 4 4 22 _ 0 w1 hP.here (by rw [putFrom_length _ _ _ _ (by simp [zero12])]; simp [zero12]) (by decide) (by decide) (by omega)).mono ?_
  rintro e w2 ⟨rfl, hQ⟩
  have G2 : Hid (w2.heap[w.heap.size + 1]? = some (.cells (Iv .u8 (taiL 0)) 22)) := by
    show _ = _
    rw [hQ.here, tai_rows]
    rfl
  have G1 : Hid (w2.heap[w.heap.size]? = some (.cells (Iv .u8 zero12) 22)) := (hQ.far _ (by omega)).trans G0.out
  have HB : Hid (Below w.heap.size w w2) := hQ.below _ _ (hP.below _ _ hb (by omega)) (by omega)
  clear hP hQ
  go_wp2_with (first
    | refine wpList_load_row rfl 22 _ rfl (w.heap.size + 1) rfl _ (Iv .u8 (taiL 0)) _ _ G2.out Try.underlying22 rfl ?hi ?_
    | refine wpList_put_row rfl 22 _ _ rfl w.heap.size (Iv .u8 (taiL 0)) rfl rfl _ _ G1.out ?hi2 ?hs ?h1 ?_)
  case hi => rw [Iv_size, hlen]; exact infoA12
  case hi2 => rw [Iv_size, hlen]; exact infoA12
  case hs => rw [Iv_size, Iv_size, hlen]; rfl
  case h1 => exact Iv_one _ _
  intro W3 hP3
  go_wp2
  exact bodyPost_ret (v := .agg (Iv .u8 (taiL 0))) (results_cell_row rfl _ _ _ _ (Iv .u8 (taiL 0)) _ _ rfl hP3.here Try.underlying22 rfl (by rw [Iv_size, hlen]; exact infoA12)) rfl ⟨rfl, hP3.below _ _ HB.out (Nat.le_refl _)⟩
theorem implTaiOf_any (now : Int) (h0 : -9223372036854775808 ≤ now) (h1 : now ≤ 9223372036854775807) (w : World) :
    Calls Try.prog 12 #[.int .i64 now] w fun e w' => e = .returned (.agg (Iv .u8 (taiL (max now 0)))) ∧ Below w.heap.size w w' := by
  by_cases h : 0 ≤ now
  · rw [show max now 0 = now by omega]
    exact implTaiOf_pos now h0 h1 h w
  · rw [show max now 0 = 0 by omega]
    exact implTaiOf_neg now h0 h1 (by omega) w
end Go.Proofs.Ytmlhbeljepjdfaa
