/- 'bytesOfWord'. -/
import Derived.Test.YtceiljagdbafiaaPut32
import Derived.Test.YtceiljagdbafiaaMid
namespace Go.Proofs.Ytceiljagdbafiaa
open Go.RowKit
set_option linter.unusedVariables false
def wordB (x : Int) : List Int := (List.range 4).map fun i => x / 256 ^ i % 256
theorem wordB_length (x : Int) : (wordB x).length = 4 := by simp [wordB]
def zero4 : List Int := [0, 0, 0, 0]
theorem infoA4 : (Try.prog.info? 48).map (·.size) = some 4 := by kernel_rfl
set_option maxHeartbeats 1000000 in
theorem bytesOfWord_any (x : Int) (hx : 0 ≤ x) (w : World) :
    Calls Try.prog 16 #[.int .u32 x] w fun e w' => e = .returned (.agg (Iv .u8 (wordB x))) ∧ Below w.heap.size w w' := by
  have Hz : Hid ((#[.int .u8 0, .int .u8 0, .int .u8 0, .int .u8 0] : Array Value) = Iv .u8 zero4) := rfl
  have hlen := wordB_length x
  go_enter Try.func16, Try.ntmps16
  go_wp2_with fail
  rw [Hz.out]
  obtain ⟨W, hW, g0, g1, hs, hb⟩ := alloc2 w (.cells (Iv .u8 zero4) 48) (.cells (Iv .u8 zero4) 48)
  rw [hW]
  clear hW
  refine (putLittle32_any (w.heap.size + 1) 0 4 4 48 zero4 x W g1 (by simp [zero4]) (by decide) hx).mono ?_
  rintro e w1 ⟨rfl, hw1⟩
  have hP : Put W (w.heap.size + 1) (Iv .u8 (wordB x)) 48 w1 := by
    have e1 : putFrom zero4 0 (fun i => x / 256 ^ i % 256) 4 = wordB x := by simp [putFrom, zero4, wordB]
    rw [hw1, e1]
    exact put_setRow g1 _
  clear hw1
  have G2 : Hid _ := hP.here
  have G1 : Hid (w1.heap[w.heap.size]? = some (.cells (Iv .u8 zero4) 48)) := (hP.far _ (by omega)).trans g0
  have HB : Hid (Below w.heap.size w w1) := hP.below _ _ hb (by omega)
  clear hP g0 g1
  go_wp2_with (first
    | refine wpList_load_row rfl 48 _ rfl (w.heap.size + 1) rfl _ (Iv .u8 (wordB x)) _ _ G2.out Try.underlying48 rfl ?hi ?_
    | refine wpList_put_row rfl 48 _ _ rfl w.heap.size (Iv .u8 (wordB x)) rfl rfl _ _ G1.out ?hi2 ?hs ?h1 ?_)
  case hi => rw [Iv_size, hlen]; exact infoA4
  case hi2 => rw [Iv_size, hlen]; exact infoA4
  case hs => rw [Iv_size, Iv_size, hlen]; rfl
  case h1 => exact Iv_one _ _
  intro W3 hP3
  go_wp2
  exact bodyPost_ret (v := .agg (Iv .u8 (wordB x))) (results_cell_row rfl _ _ _ _ (Iv .u8 (wordB x)) _ _ rfl hP3.here Try.underlying48 rfl (by rw [Iv_size, hlen]; exact infoA4)) rfl ⟨rfl, hP3.below _ _ HB.out (Nat.le_refl _)⟩
end Go.Proofs.Ytceiljagdbafiaa
