import Derived.Test.YtfipcjchjpihkaaDoorMG13
/- The program's 'paddedTo16' at three parts. -/
namespace Go.Proofs.YtfipcjchjpihkaaDoor
open Go.RowKit
set_option linter.unusedVariables false
/-- The parts so far, each filled up. -/
def padP (P : Nat → List Int) : Nat → List Int
  | 0 => []
  | k + 1 => padP P k ++ fillL (P k)
theorem own_none {k : IntKind} {e : TypeId} {base : Nat} (w : World) : Own k e base w (.slice none 0 0) [] := ⟨by simp [iv_length], .inl ⟨rfl, rfl⟩⟩
theorem i64_and15 (n : Int) : bits .and .i64 n 15 = n % 16 := by
  have h15 : (BitVec.ofInt 64 15).toNat = 2 ^ 4 - 1 := by decide
  have key : (BitVec.ofInt 64 n &&& BitVec.ofInt 64 15).toNat = (n % ((2 ^ 64 : Nat) : Int)).toNat % 2 ^ 4 := by
    rw [BitVec.toNat_and, BitVec.toNat_ofInt, h15, Nat.and_two_pow_sub_one_eq_mod]
  show IntKind.i64.wrap ((BitVec.ofInt 64 n &&& BitVec.ofInt 64 15).toNat : Nat) = n % 16
  rw [key, IntKind.wrap_i64]
  omega
theorem neg_and15 (n : Nat) (h : n ≤ 1000000) : bits .and .i64 (-(n : Int)) 15 = (fillN n : Nat) := by
  rw [i64_and15]
  unfold fillN
  omega
set_option maxRecDepth 10000 in
set_option maxHeartbeats 2000000 in
theorem padded_any (P : Nat → List Int) (pl pg po pc : Nat → Nat) (hpl : ∀ k, k < 3 → (P k).length = pl k) (hps : ∀ k, k < 3 → pl k ≤ 65536) (gp gz : Nat) (w : World) (hgp : gp < w.heap.size)
    (HP : Hid (∀ k, k < 3 → w.cell? ⟨gp, k, none⟩ = some (.slice (some ⟨pg k, po k, none⟩) (pl k) (pc k)))) (HS : Hid (∀ k, k < 3 → Sl w (pg k) (po k) (P k))) (HZ : Hid (∀ j, j < 16 → w.cell? ⟨gz, j, none⟩ = some (.int .u8 0))) (hgz : gz < w.heap.size) :
    Calls Tryd.prog 61 #[.slice (some ⟨gp, 0, none⟩) 3 3] w fun e w' => ∃ v, e = .returned v ∧ Own .u8 5 w.heap.size w' v (padP P 3) ∧ Below w.heap.size w w' := by
  go_enter Tryd.func61, Tryd.ntmps61
  go_wp2
  go_loopw [3, 8] (fun v i wr => ∃ k : Nat, k ≤ 3 ∧ i = .int .i64 k ∧ Own .u8 5 w.heap.size wr v (padP P k) ∧ (padP P k).length ≤ k * 65600 ∧ Below w.heap.size w wr) (fun _ i _ => 3 - (intOf i).toNat)
  case atStart => exact ⟨0, Nat.zero_le _, rfl, own_none w, Nat.le_refl _, Below.refl _ _⟩
  case round =>
    obtain ⟨k, hk, rfl, hown, hpl2, hbel⟩ := hrel
    have hsz := hbel.size
    have HO : Hid _ := hown
    have HBL : Hid _ := hbel
    clear hown hbel
    by_cases hlt : k < 3
    · have hki : (k : Int) < 3 := by omega
      have hc : wr.cell? ⟨gp, k, none⟩ = some (.slice (some ⟨pg k, po k, none⟩) (pl k) (pc k)) := (HBL.out.cell (p := ⟨gp, k, none⟩) hgp).trans (HP.out k hlt)
      have HSk : Hid (Sl wr (pg k) (po k) (P k)) := Sl.later (HS.out k hlt) HBL.out (HS.out k hlt).1
      have HZ2 : Hid (∀ j, j < 16 → wr.cell? ⟨gz, j, none⟩ = some (.int .u8 0)) := fun j hj => (HBL.out.cell (p := ⟨gz, j, none⟩) hgz).trans (HZ.out j hj)
      have HL : Hid ((P k).length = pl k) := hpl k hlt
      have hps2 := hps k hlt
      have HSt : Hid (padP P (k + 1) = padP P k ++ (P k ++ List.replicate (fillN (pl k)) 0)) := by show padP P k ++ fillL (P k) = _; unfold fillL; rw [hpl k hlt]
      have hf16 := fillN_lt (pl k)
      have HN : Hid _ := neg_and15 (pl k) (by omega)
      clear hpl hps HP HS
      obtain ⟨L, eL⟩ : ∃ L, L = padP P k := ⟨_, rfl⟩
      rw [← eL] at HO hpl2 HSt
      obtain ⟨Pk, ePk⟩ : ∃ x, x = P k := ⟨_, rfl⟩
      rw [← ePk] at HSk HL HSt
      obtain ⟨n, en⟩ : ∃ x, x = pl k := ⟨_, rfl⟩
      rw [← en] at hc HL HSt HN hps2 hf16
      obtain ⟨g, eg⟩ : ∃ x, x = pg k := ⟨_, rfl⟩
      rw [← eg] at hc HSk
      obtain ⟨o, eo⟩ : ∃ x, x = po k := ⟨_, rfl⟩
      rw [← eo] at hc HSk
      obtain ⟨c, ec⟩ : ∃ x, x = pc k := ⟨_, rfl⟩
      rw [← ec] at hc
      clear eL ePk en eg eo ec
      go_wp2_with (at_builtin; first
        | (refine extend_law .u8 46 5 1 Tryd.underlying46 infoE8 (by decide) rfl (.tmp 12) (.tmp 13) rfl w.heap.size w wr _ L g o n c Pk HL.out rfl rfl HO.out HBL.out hsz (by have := HL.out; omega) (by have := HL.out; intro j hj; exact HSk.out.2 j (by omega)) ?_; intro v1 w1 ho1 hb1 hg1 hd1; refine stop_here ?_))
      refine hid_mk ?_
      have HO1 : Hid _ := ho1
      have HB1 : Hid _ := hb1
      have HZ3 : Hid (∀ j, j < 16 → w1.cell? ⟨gz, j, none⟩ = some (.int .u8 0)) := fun j hj => (hb1.cell (p := ⟨gz, j, none⟩) hgz).trans (HZ.out j hj)
      have hs1 := hb1.size
      clear ho1 hb1 hg1 hd1 HO HBL HSk HZ2 hc
      go_wp2_with (at_builtin; (refine zeros_law .u8 46 5 3 1 Tryd.underlying46 infoE8 (by decide) Tryd.underlying3 rfl (.tmp 15) (.tmp 19) rfl w.heap.size w w1 _ (L ++ Pk) gz 0 (fillN n) rfl (congrArg (Value.int .i64) HN.out) HO1.out HB1.out hs1 (by omega) (by have := HL.out; rw [List.length_append]; omega) (fun j hj => by rw [Nat.zero_add]; exact HZ3.out j (by omega)) ?_; intro v2 w2 ho2 hb2 hg2 hd2; refine stop_here ?_))
      refine hid_mk ?_
      rw [List.append_assoc, ← HSt.out] at ho2
      have HO2 : Hid _ := ho2
      have HB2 : Hid _ := hb2
      have hln : Hid ((padP P (k + 1)).length ≤ (k + 1) * 65600) := by show _ ≤ _; rw [HSt.out]; have := HL.out; simp; omega
      clear ho2 hb2 hg2 hd2 HO1 HB1
      go_wp2
      go_roundw
      case rel => exact ⟨k + 1, by omega, by go_num, HO2.out, hln.out, HB2.out⟩
      case measure => simp [intOf]; omega
    · obtain rfl : k = 3 := by omega
      go_wp2
      go_ret
      exact ⟨_, rfl, HO.out, HBL.out⟩
end Go.Proofs.YtfipcjchjpihkaaDoor
