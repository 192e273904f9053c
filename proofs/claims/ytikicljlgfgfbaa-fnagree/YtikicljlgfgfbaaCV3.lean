/- The field's limbs: carrying. -/
import Derived.Test.YtikicljlgfgfbaaCV2
namespace Go.Proofs.Ytikicljlgfgfbaa
open Go.RowKit Go.Lib
set_option linter.unusedVariables false
/-- The modulus of the field. -/
def pF : Int := 57896044618658097711785492504343953926634992332820282019728792003956564819949
/-- The number of five limbs of 51 bits. -/
def val5 (a b c d e : Int) : Int := a + 2251799813685248 * b + 5070602400912917605986812821504 * c + 11417981541647679048466287755595961091061972992 * d + 25711008708143844408671393477458601640355247900524685364822016 * e
/-- Limbs between the methods. -/
def El (a b c d e : Int) : Prop := (0 ≤ a ∧ a < 2251799813685312) ∧ (0 ≤ b ∧ b < 2251799813685248) ∧ (0 ≤ c ∧ c < 2251799813685248) ∧ (0 ≤ d ∧ d < 2251799813685248) ∧ (0 ≤ e ∧ e < 2251799813685248)
def eRow (a b c d e : Int) : Array Value := #[.int .u64 a, .int .u64 b, .int .u64 c, .int .u64 d, .int .u64 e]
theorem infoEl : (Try.prog.info? 45).map (·.size) = some 5 := by kernel_rfl
theorem carried_num (x0 x1 x2 x3 x4 : Int) (h0 : 0 ≤ x0 ∧ x0 ≤ 9223372036854775807) (h1 : 0 ≤ x1 ∧ x1 ≤ 6755399441055744) (h2 : 0 ≤ x2 ∧ x2 ≤ 6755399441055744) (h3 : 0 ≤ x3 ∧ x3 ≤ 6755399441055744) (h4 : 0 ≤ x4 ∧ x4 ≤ 6755399441055744)
    (y0 y1 y2 y3 y4 c0 c1 c2 c3 c4 : Int) (e0 : y0 = x0) (f0 : c0 = y0 / 2251799813685248) (e1 : y1 = x1 + c0) (f1 : c1 = y1 / 2251799813685248) (e2 : y2 = x2 + c1) (f2 : c2 = y2 / 2251799813685248) (e3 : y3 = x3 + c2) (f3 : c3 = y3 / 2251799813685248) (e4 : y4 = x4 + c3) (f4 : c4 = y4 / 2251799813685248) :
    El (y0 % 2251799813685248 + 19 * c4) (y1 % 2251799813685248) (y2 % 2251799813685248) (y3 % 2251799813685248) (y4 % 2251799813685248) ∧
    val5 (y0 % 2251799813685248 + 19 * c4) (y1 % 2251799813685248) (y2 % 2251799813685248) (y3 % 2251799813685248) (y4 % 2251799813685248) = val5 x0 x1 x2 x3 x4 - c4 * pF := by
  unfold El val5 pF
  omega
/-- What carrying makes of limbs. -/
def carF (x0 x1 x2 x3 x4 : Int) : List Int :=
  let c0 := x0 / 2251799813685248
  let c1 := (x1 + c0) / 2251799813685248
  let c2 := (x2 + c1) / 2251799813685248
  let c3 := (x3 + c2) / 2251799813685248
  let c4 := (x4 + c3) / 2251799813685248
  [x0 % 2251799813685248 + 19 * c4, (x1 + c0) % 2251799813685248, (x2 + c1) % 2251799813685248, (x3 + c2) % 2251799813685248, (x4 + c3) % 2251799813685248]
/-- Five limbs, and their number. -/
def vL : List Int → Int
  | [a, b, c, d, e] => val5 a b c d e
  | _ => 0
def ElL : List Int → Prop
  | [a, b, c, d, e] => El a b c d e
  | _ => False
theorem ElL.five {l : List Int} (h : ElL l) : ∃ a b c d e, l = [a, b, c, d, e] ∧ El a b c d e := by
  match l, h with
  | [a, b, c, d, e], h => exact ⟨a, b, c, d, e, rfl, h⟩
theorem ElL.length {l : List Int} (h : ElL l) : l.length = 5 := by
  obtain ⟨a, b, c, d, e, rfl, _⟩ := h.five
  rfl
/-- Limbs that stand for a number of the field. -/
def Stands (l : List Int) (n : Int) : Prop := ElL l ∧ ∃ q, vL l = n - q * pF
theorem carF_ok (x0 x1 x2 x3 x4 : Int) (h0 : 0 ≤ x0 ∧ x0 ≤ 9223372036854775807) (h1 : 0 ≤ x1 ∧ x1 ≤ 6755399441055744) (h2 : 0 ≤ x2 ∧ x2 ≤ 6755399441055744) (h3 : 0 ≤ x3 ∧ x3 ≤ 6755399441055744) (h4 : 0 ≤ x4 ∧ x4 ≤ 6755399441055744) : Stands (carF x0 x1 x2 x3 x4) (val5 x0 x1 x2 x3 x4) := by
  have h := carried_num x0 x1 x2 x3 x4 h0 h1 h2 h3 h4 _ _ _ _ _ _ _ _ _ _ rfl rfl rfl rfl rfl rfl rfl rfl rfl rfl
  exact ⟨h.1, _, h.2⟩
theorem carF_length (x0 x1 x2 x3 x4 : Int) : (carF x0 x1 x2 x3 x4).length = 5 := rfl
theorem infoEl5 {l : List Int} (h : l.length = 5) : (Try.prog.info? 45).map (·.size) = some (Iv .u64 l).size := by rw [Iv_size, h]; exact infoEl
theorem zero5 {l : List Int} (h : l.length = 5) : (Iv .u64 [0, 0, 0, 0, 0]).size = (Iv .u64 l).size := by rw [Iv_size, Iv_size, h]; rfl
set_option maxHeartbeats 4000000 in
theorem carried_any (x0 x1 x2 x3 x4 : Int) (h0 : 0 ≤ x0 ∧ x0 ≤ 9223372036854775807) (h1 : 0 ≤ x1 ∧ x1 ≤ 6755399441055744) (h2 : 0 ≤ x2 ∧ x2 ≤ 6755399441055744) (h3 : 0 ≤ x3 ∧ x3 ≤ 6755399441055744) (h4 : 0 ≤ x4 ∧ x4 ≤ 6755399441055744) (w : World) :
    Calls Try.prog 35 #[.agg (Iv .u64 [x0, x1, x2, x3, x4])] w fun e w' => e = .returned (.agg (Iv .u64 (carF x0 x1 x2 x3 x4))) ∧ Below w.heap.size w w' := by
  obtain ⟨R, hR⟩ : ∃ R, carF x0 x1 x2 x3 x4 = R := ⟨_, rfl⟩
  have HR : Hid _ := hR
  rw [hR]
  clear hR
  obtain ⟨c0, f0⟩ : ∃ c, c = x0 / 2251799813685248 := ⟨_, rfl⟩
  obtain ⟨c1, f1⟩ : ∃ c, c = (x1 + c0) / 2251799813685248 := ⟨_, rfl⟩
  obtain ⟨c2, f2⟩ : ∃ c, c = (x2 + c1) / 2251799813685248 := ⟨_, rfl⟩
  obtain ⟨c3, f3⟩ : ∃ c, c = (x3 + c2) / 2251799813685248 := ⟨_, rfl⟩
  obtain ⟨c4, f4⟩ : ∃ c, c = (x4 + c3) / 2251799813685248 := ⟨_, rfl⟩
  have k0 : 0 ≤ c0 ∧ c0 ≤ 4096 := by omega
  have k1 : 0 ≤ c1 ∧ c1 ≤ 4 := by omega
  have k2 : 0 ≤ c2 ∧ c2 ≤ 4 := by omega
  have k3 : 0 ≤ c3 ∧ c3 ≤ 4 := by omega
  have k4 : 0 ≤ c4 ∧ c4 ≤ 4 := by omega
  have a0 := and51 x0 h0.1 (by omega)
  have a1 := and51 (x1 + c0) (by omega) (by omega)
  have a2 := and51 (x2 + c1) (by omega) (by omega)
  have a3 := and51 (x3 + c2) (by omega) (by omega)
  have a4 := and51 (x4 + c3) (by omega) (by omega)
  obtain ⟨r0, e0⟩ : ∃ r, x0 % 2251799813685248 = r := ⟨_, rfl⟩
  obtain ⟨r1, e1⟩ : ∃ r, (x1 + c0) % 2251799813685248 = r := ⟨_, rfl⟩
  obtain ⟨r2, e2⟩ : ∃ r, (x2 + c1) % 2251799813685248 = r := ⟨_, rfl⟩
  obtain ⟨r3, e3⟩ : ∃ r, (x3 + c2) % 2251799813685248 = r := ⟨_, rfl⟩
  obtain ⟨r4, e4⟩ : ∃ r, (x4 + c3) % 2251799813685248 = r := ⟨_, rfl⟩
  have l0 : 0 ≤ r0 ∧ r0 < 2251799813685248 := by omega
  have HN : Hid ([r0 + 19 * c4, r1, r2, r3, r4] = R) := by
    show _ = _
    rw [← HR.out]
    unfold carF
    simp only
    rw [← f0, ← f1, ← f2, ← f3, ← f4, e0, e1, e2, e3, e4]
  rw [e0] at a0
  rw [e1] at a1
  rw [e2] at a2
  rw [e3] at a3
  rw [e4] at a4
  have F0 := f0.symm
  have F1 := f1.symm
  have F2 := f2.symm
  have F3 := f3.symm
  have F4 := f4.symm
  clear f0 f1 f2 f3 f4 e0 e1 e2 e3 e4 HR
  have hrow : ∀ a b c d e : Int, Iv .u64 [a, b, c, d, e] = #[.int .u64 a, .int .u64 b, .int .u64 c, .int .u64 d, .int .u64 e] := fun _ _ _ _ _ => rfl
  rw [hrow]
  go_enter Try.func35, Try.ntmps35
  go_wp2
  refine wp_loop_rounds 6 ?_
  iterate 6 (rw [rounds_succ]; go_wp2)
  refine bodyPost_ret (v := .agg (Iv .u64 [r0 + 19 * c4, r1, r2, r3, r4])) (results_cell_row rfl _ _ _ _ (Iv .u64 [r0 + 19 * c4, r1, r2, r3, r4]) _ _ rfl (by rw [heapAt, if_pos (by simp)]; rfl) Try.underlying45 rfl infoEl) rfl ⟨?_, ((Below.refl _ _).alloc (by simp) _).alloc (by simp) _⟩
  rw [HN.out]
end Go.Proofs.Ytikicljlgfgfbaa
