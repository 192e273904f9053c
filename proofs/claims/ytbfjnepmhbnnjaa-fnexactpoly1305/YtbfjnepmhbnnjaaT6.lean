import Derived.Test.YtbfjnepmhbnnjaaT3
namespace Go.Proofs.Ytbfjnepmhbnnjaa
open Go.RowKit
set_option linter.unusedVariables false

/-- Both halves of the low 128 bits. -/
theorem halves_num (a0 a1 a2 a3 a4 : Int) (h0 : 0 ≤ a0) (g0 : a0 < 67108864) (h1 : 0 ≤ a1) (g1 : a1 < 67108864) (h2 : 0 ≤ a2) (g2 : a2 < 67108864) (h3 : 0 ≤ a3) (g3 : a3 < 67108864) (h4 : 0 ≤ a4) (g4 : a4 < 67108864) :
    bits .or .u64 (bits .or .u64 a0 (IntKind.u64.wrap (a1 * 67108864))) (IntKind.u64.wrap (a2 * 4503599627370496)) = a0 + 67108864 * a1 + 4503599627370496 * (a2 % 4096) ∧
    bits .or .u64 (bits .or .u64 (a2 / 4096) (IntKind.u64.wrap (a3 * 16384))) (IntKind.u64.wrap (a4 * 1099511627776)) = a2 / 4096 + 16384 * a3 + 1099511627776 * (a4 % 16777216) := by
  have e1 : IntKind.u64.wrap (a1 * 67108864) = a1 * 67108864 := keep64 _ (by omega) (by omega)
  have e2 : IntKind.u64.wrap (a2 * 4503599627370496) = (a2 % 4096) * 4503599627370496 := by rw [IntKind.wrap_u64]; omega
  have e3 : IntKind.u64.wrap (a3 * 16384) = a3 * 16384 := keep64 _ (by omega) (by omega)
  have e4 : IntKind.u64.wrap (a4 * 1099511627776) = (a4 % 16777216) * 1099511627776 := by rw [IntKind.wrap_u64]; omega
  rw [e1, e2, e3, e4]
  rw [or64' 26 a0 (a1 * 67108864) (by decide) (by omega) (by omega) (by omega) (by omega) (by omega)]
  rw [or64' 52 (a0 + a1 * 67108864) ((a2 % 4096) * 4503599627370496) (by decide) (by omega) (by omega) (by omega) (by omega) (by omega)]
  rw [or64' 14 (a2 / 4096) (a3 * 16384) (by decide) (by omega) (by omega) (by omega) (by omega) (by omega)]
  rw [or64' 40 (a2 / 4096 + a3 * 16384) ((a4 % 16777216) * 1099511627776) (by decide) (by omega) (by omega) (by omega) (by omega) (by omega)]
  omega

set_option maxHeartbeats 1000000 in
theorem halves_any (a0 a1 a2 a3 a4 : Int) (w : World) (h0 : 0 ≤ a0) (g0 : a0 < 67108864) (h1 : 0 ≤ a1) (g1 : a1 < 67108864) (h2 : 0 ≤ a2) (g2 : a2 < 67108864) (h3 : 0 ≤ a3) (g3 : a3 < 67108864) (h4 : 0 ≤ a4) (g4 : a4 < 67108864) :
    Calls Try.prog 17 #[.agg #[.int .u64 a0, .int .u64 a1, .int .u64 a2, .int .u64 a3, .int .u64 a4]] w fun e w' =>
      e = .returned (.tuple #[.int .u64 (a0 + 67108864 * a1 + 4503599627370496 * (a2 % 4096)), .int .u64 (a2 / 4096 + 16384 * a3 + 1099511627776 * (a4 % 16777216))]) ∧ Below w.heap.size w w' := by
  have H := halves_num a0 a1 a2 a3 a4 h0 g0 h1 g1 h2 g2 h3 g3 h4 g4
  have H1 : Hid (_ ∧ _) := H
  clear H h0 g0 h1 g1 h2 g2 h3 g3 h4 g4
  go_enter Try.func17, Try.ntmps17
  go_wp2
  go_quiet (fail)
  go_wp2
  go_ret2
  obtain ⟨H2, H3⟩ := H1.out
  rw [H2, H3]
  exact ⟨rfl, below_drews ((Below.refl _ _).alloc (by simp) _) _⟩

/-- The limbs of five words. -/
theorem limbs_num (w0 w1 w2 w3 w4 : Int) (h0 : 0 ≤ w0) (g0 : w0 < 4294967296) (h1 : 0 ≤ w1) (g1 : w1 < 4294967296) (h2 : 0 ≤ w2) (g2 : w2 < 4294967296) (h3 : 0 ≤ w3) (g3 : w3 < 4294967296) (h4 : 0 ≤ w4) (g4 : w4 ≤ 1) :
    bits .and .u64 w0 67108863 = w0 % 67108864 ∧
    bits .and .u64 (bits .or .u64 (w0 / 67108864) (w1 * 64)) 67108863 = w0 / 67108864 + 64 * (w1 % 1048576) ∧
    bits .and .u64 (bits .or .u64 (w1 / 1048576) (w2 * 4096)) 67108863 = w1 / 1048576 + 4096 * (w2 % 16384) ∧
    bits .and .u64 (bits .or .u64 (w2 / 16384) (w3 * 262144)) 67108863 = w2 / 16384 + 262144 * (w3 % 256) ∧
    bits .or .u64 (w3 / 256) (w4 * 16777216) = w3 / 256 + 16777216 * w4 := by
  rw [and26 w0 h0 (by omega)]
  rw [or64' 6 (w0 / 67108864) (w1 * 64) (by decide) (by omega) (by omega) (by omega) (by omega) (by omega), and26 _ (by omega) (by omega)]
  rw [or64' 12 (w1 / 1048576) (w2 * 4096) (by decide) (by omega) (by omega) (by omega) (by omega) (by omega), and26 _ (by omega) (by omega)]
  rw [or64' 18 (w2 / 16384) (w3 * 262144) (by decide) (by omega) (by omega) (by omega) (by omega) (by omega), and26 _ (by omega) (by omega)]
  rw [or64' 24 (w3 / 256) (w4 * 16777216) (by decide) (by omega) (by omega) (by omega) (by omega) (by omega)]
  omega

set_option maxHeartbeats 1000000 in
theorem limbs_any (w0 w1 w2 w3 w4 : Int) (w : World) (h0 : 0 ≤ w0) (g0 : w0 < 4294967296) (h1 : 0 ≤ w1) (g1 : w1 < 4294967296) (h2 : 0 ≤ w2) (g2 : w2 < 4294967296) (h3 : 0 ≤ w3) (g3 : w3 < 4294967296) (h4 : 0 ≤ w4) (g4 : w4 ≤ 1) :
    Calls Try.prog 21 #[.agg #[.int .u32 w0, .int .u32 w1, .int .u32 w2, .int .u32 w3, .int .u32 w4]] w fun e w' =>
      e = .returned (.agg #[.int .u64 (w0 % 67108864), .int .u64 (w0 / 67108864 + 64 * (w1 % 1048576)), .int .u64 (w1 / 1048576 + 4096 * (w2 % 16384)), .int .u64 (w2 / 16384 + 262144 * (w3 % 256)), .int .u64 (w3 / 256 + 16777216 * w4)]) ∧ Below w.heap.size w w' := by
  have H := limbs_num w0 w1 w2 w3 w4 h0 g0 h1 g1 h2 g2 h3 g3 h4 g4
  have H1 : Hid (_ ∧ _ ∧ _ ∧ _ ∧ _) := H
  clear H
  go_enter Try.func21, Try.ntmps21
  go_wp2
  obtain ⟨H2, H3, H4, H5, H6⟩ := H1.out
  rw [H2, H3, H4, H5, H6]
  refine bodyPost_ret (v := .agg #[.int .u64 _, .int .u64 _, .int .u64 _, .int .u64 _, .int .u64 _]) (by simp [results, Try.results21, go_sem]) rfl ⟨rfl, ?_⟩
  exact ((Below.refl _ _).alloc (by simp) _).alloc (by simp) _
theorem limbs_val (w0 w1 w2 w3 w4 : Int) (w : World) (h0 : 0 ≤ w0) (g0 : w0 < 4294967296) (h1 : 0 ≤ w1) (g1 : w1 < 4294967296) (h2 : 0 ≤ w2) (g2 : w2 < 4294967296) (h3 : 0 ≤ w3) (g3 : w3 < 4294967296) (h4 : 0 ≤ w4) (g4 : w4 ≤ 1) :
    Calls Try.prog 21 #[.agg #[.int .u32 w0, .int .u32 w1, .int .u32 w2, .int .u32 w3, .int .u32 w4]] w fun e w' =>
      ∃ r0 r1 r2 r3 r4, e = .returned (.agg #[.int .u64 r0, .int .u64 r1, .int .u64 r2, .int .u64 r3, .int .u64 r4]) ∧ Limbs r0 r1 r2 r3 r4 ∧
        V5 r0 r1 r2 r3 r4 = w0 + 4294967296 * w1 + 18446744073709551616 * w2 + 79228162514264337593543950336 * w3 + 340282366920938463463374607431768211456 * w4 ∧ Below w.heap.size w w' := by
  refine (limbs_any w0 w1 w2 w3 w4 w h0 g0 h1 g1 h2 g2 h3 g3 h4 g4).mono ?_
  rintro e w' ⟨rfl, hb⟩
  obtain ⟨hv, hl⟩ := limbs_value w0 w1 w2 w3 w4 h0 g0 h1 g1 h2 g2 h3 g3 h4 g4
  exact ⟨_, _, _, _, _, rfl, hl, hv, hb⟩
end Go.Proofs.Ytbfjnepmhbnnjaa
