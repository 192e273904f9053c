import Derived.Test.YtikicljlgfgfbaaMGa
import Derived.Test.YtikicljlgfgfbaaMGc
import Derived.Test.YtikicljlgfgfbaaMGd
/- The multiplication of both sides in the field: two scalars agree. -/
namespace Go.Proofs.Ytikicljlgfgfbaa.AG
set_option linter.unusedVariables false
abbrev pI : Int := Go.Proofs.Ytikicljlgfgfbaa.pF
theorem pI_eq : pI = (pF : Int) := by rw [pF_eq]; rfl
theorem pI_pos : 0 < pI := by decide
/-- The field's element of a number. -/
def ph (z : Int) : F := Fin.ofNat pF (z % pI).toNat
theorem ph_val (z : Int) : (((ph z).val : Nat) : Int) = z % pI := by
  have h1 := Int.emod_nonneg z (show pI ≠ 0 by decide)
  have h2 := Int.emod_lt_of_pos z pI_pos
  have e : (ph z).val = (z % pI).toNat % pF := rfl
  rw [e, Nat.mod_eq_of_lt (by have := pI_eq; omega)]
  exact Int.toNat_of_nonneg h1
theorem F.ext_int {a b : F} (h : (a.val : Int) = b.val) : a = b := Fin.ext (Int.ofNat.inj h)
theorem ph_add (a b : Int) : ph (a + b) = ph a + ph b := by
  apply F.ext_int
  rw [ph_val, Fin.val_add, Int.natCast_emod, Int.natCast_add, ph_val, ph_val, ← pI_eq, ← Int.add_emod]
theorem ph_mul (a b : Int) : ph (a * b) = ph a * ph b := by
  apply F.ext_int
  rw [ph_val, Fin.val_mul, Int.natCast_emod, Int.natCast_mul, ph_val, ph_val, ← pI_eq, ← Int.mul_emod]
theorem ph_sub (a b : Int) : ph (a - b) = ph a - ph b := by
  have h := ph_add (a - b) b
  rw [Int.sub_add_cancel] at h
  rw [h]
  grobner
theorem ph_emod (a : Int) : ph (a % pI) = ph a := by
  apply F.ext_int
  rw [ph_val, ph_val, Int.emod_emod_of_dvd _ (Int.dvd_refl _)]
theorem ph_inj {a b : Int} (h : ph a = ph b) : a % pI = b % pI := by rw [← ph_val, ← ph_val, h]
theorem small_mod (n : Nat) (h : n < 200000) : n % pF = n := Nat.mod_eq_of_lt (Nat.lt_trans h (by rw [pF_eq]; decide))
theorem ph_one : ph 1 = 1 := F.ext_int (by rw [ph_val, F.one_val]; decide)
theorem ph_zero : ph 0 = 0 := F.ext_int (by rw [ph_val]; rfl)
theorem ph_nine : ph 9 = 9 := F.ext_int (by
  have e : (9 : F).val = 9 % pF := rfl
  rw [ph_val, e, small_mod 9 (by decide)]; decide)
theorem ph_k : ph 121665 = 121665 := F.ext_int (by
  have e : (121665 : F).val = 121665 % pF := rfl
  rw [ph_val, e, small_mod 121665 (by decide)]; decide)
theorem ph_dX (x z : Int) : ph (dblX x z) = eX (ph x) (ph z) := by simp only [dblX, eX, ph_add, ph_mul, ph_sub]
theorem ph_dE (x z : Int) : ph (dblE x z) = eE (ph x) (ph z) := by simp only [dblE, eE, ph_add, ph_mul, ph_sub]
theorem ph_dZ (x z : Int) : ph (dblZ x z) = eZ (ph x) (ph z) := by simp only [dblZ, eZ, ph_add, ph_mul, ph_dE, ph_k]
theorem ph_sX (x z x' z' : Int) : ph (sumX x z x' z') = tX (ph x) (ph z) (ph x') (ph z') := by simp only [sumX, tX, ph_add, ph_mul, ph_sub]
theorem ph_sZ (x z x' z' u : Int) : ph (sumZ x z x' z' u) = tZ (ph x) (ph z) (ph x') (ph z') (ph u) := by simp only [sumZ, tZ, ph_add, ph_mul, ph_sub]
theorem ph_pair (bit : Nat → Bool) (u : Int) : ∀ m, pairF bit (ph u) m = ⟨ph (pairN bit u m).x1, ph (pairN bit u m).z1, ph (pairN bit u m).x2, ph (pairN bit u m).z2⟩
  | 0 => by
    show (⟨1, 0, ph u, 1⟩ : Qd) = ⟨ph 1, ph 0, ph u, ph 1⟩
    rw [ph_one, ph_zero]
  | m + 1 => by
    have ih := ph_pair bit u m
    unfold pairF pairN
    simp only [ih]
    split
    · simp only [ph_sX, ph_sZ, ph_dX, ph_dZ]
    · simp only [ph_sX, ph_sZ, ph_dX, ph_dZ]
/-- The exponent, m of its bits done. -/
def eN : Nat → Nat
  | 0 => 0
  | m + 1 => 2 * eN m + (if 254 - m = 2 ∨ 254 - m = 4 then 0 else 1)
theorem ph_pow (a : Int) : ∀ m, ph (powN a m) = pw (ph a) (eN m)
  | 0 => ph_one
  | m + 1 => by
    have ih := ph_pow a m
    unfold powN eN
    split
    · rw [ph_mul, ih, Nat.two_mul, Nat.add_zero, pw_add]
    · rw [ph_mul, ph_mul, ih, Nat.two_mul, pw_add, pw_add]
      show _ = _ * (1 * ph a)
      grobner
theorem eN_all : eN 255 = pF - 2 := by rw [pF_eq]; decide +kernel
theorem smN_ph (l p : List Int) : ph (smN l p) = smF (bitB l) (ph (nB (ptL p))) := by
  unfold smN smF
  rw [ph_mul, ph_pow, eN_all, ph_pair]
  rfl
theorem bitB_zero (l : List Int) : bitB l 0 = false := rfl
theorem set_same : ∀ (p : List Int) (k : Nat) (v : Int), (k < p.length → p.getD k 0 = v) → p.set k v = p
  | [], _, _, _ => rfl
  | x :: p, 0, v, h => by rw [List.set_cons_zero, ← h (by simp)]; rfl
  | x :: p, k + 1, v, h => by
    rw [List.set_cons_succ, set_same p k v (fun hk => h (by simp; omega))]
theorem ptL_same (p : List Int) (h : 0 ≤ p.getD 31 0 ∧ p.getD 31 0 < 128) : ptL p = p := by
  unfold ptL
  exact set_same p 31 _ (fun _ => (Int.emod_eq_of_lt h.1 h.2).symm)
theorem leN_succ (n : Int) (k : Nat) : leN n (k + 1) = n % 256 :: leN (n / 256) k := by
  unfold leN
  rw [List.range_succ_eq_map, List.map_cons, List.map_map]
  congr 1
  · rw [Int.pow_zero, Int.ediv_one]
  · apply List.map_congr_left
    intro i hi
    simp only [Function.comp]
    rw [Int.pow_succ, Int.mul_comm, ← Int.ediv_ediv_of_nonneg (by decide)]
theorem nB_leN : ∀ (k : Nat) (n : Int), nB (leN n k) = n % 256 ^ k
  | 0, n => by simp [leN, nB, Int.emod_one]
  | k + 1, n => by
    rw [leN_succ, nB, nB_leN k, Int.pow_succ, Int.mul_comm (256 ^ k) 256]
    have h1 := Int.emod_add_mul_ediv n 256
    have h2 := Int.emod_add_mul_ediv (n / 256) (256 ^ k)
    have hp : (0 : Int) < 256 ^ k := Int.pow_pos (by decide)
    have h3 := Int.emod_nonneg (n / 256) (Int.ne_of_gt hp)
    have h4 := Int.emod_lt_of_pos (n / 256) hp
    have h5 : n = (n % 256 + 256 * (n / 256 % 256 ^ k)) + (256 * 256 ^ k) * (n / 256 / 256 ^ k) := by rw [Int.mul_assoc]; omega
    have h6 : (n % 256 + 256 * (n / 256 % 256 ^ k)) % (256 * 256 ^ k) = n % 256 + 256 * (n / 256 % 256 ^ k) := Int.emod_eq_of_lt (by omega) (by omega)
    rw [← h6]
    conv => rhs; rw [h5]
    rw [Int.add_mul_emod_self_left]
theorem leN_last (n : Int) (h0 : 0 ≤ n) (h1 : n < pI) : (leN n 32).getD 31 0 = n / 256 ^ 31 % 256 := rfl
theorem nB_smL (l p : List Int) : nB (ptL (smL l p)) = smN l p % pI := by
  have h0 := Int.emod_nonneg (smN l p) (show pI ≠ 0 by decide)
  have h1 := Int.emod_lt_of_pos (smN l p) pI_pos
  unfold smL
  show nB (ptL (leN (smN l p % pI) 32)) = smN l p % pI
  generalize smN l p % pI = n at *
  have h2 : n < 57896044618658097711785492504343953926634992332820282019728792003956564819949 := h1
  rw [ptL_same, nB_leN]
  · exact Int.emod_eq_of_lt h0 (by omega)
  · rw [leN_last n h0 h1]
    omega
/-- Two scalars agree on a product of the base point. -/
theorem agreeL (a b : List Int) : smL a (smL b nineL) = smL b (smL a nineL) := by
  have e9 : ph (nB (ptL nineL)) = 9 := ph_nine
  have h : ph (smN a (smL b nineL)) = ph (smN b (smL a nineL)) := by
    rw [smN_ph, smN_ph, nB_smL, nB_smL, ph_emod, ph_emod, smN_ph, smN_ph, e9]
    exact agree _ _ (bitB_zero a) (bitB_zero b)
  have h2 := ph_inj h
  show leN (smN a (smL b nineL) % pI) 32 = leN (smN b (smL a nineL) % pI) 32
  rw [h2]
end Go.Proofs.Ytikicljlgfgfbaa.AG
/- The bits that the clamp covers, and the point's last bit, change nothing. -/
namespace Go.Proofs.Ytikicljlgfgfbaa
open Go.RowKit
set_option linter.unusedVariables false
set_option maxRecDepth 100000 in
theorem xor8 : ∀ x : Fin 256, ∀ v : Fin 8, (bits .xor .u8 (x.val : Int) (v.val : Int) / 8 = (x.val : Int) / 8 ∧ 0 ≤ bits .xor .u8 (x.val : Int) (v.val : Int)) ∧ bits .xor .u8 (x.val : Int) (v.val : Int) ≤ 255 := of_decide_eq_true (by kernel_rfl)
set_option maxRecDepth 100000 in
theorem xor64 : ∀ x : Fin 256, ∀ v : Fin 4, (bits .xor .u8 (x.val : Int) (64 * (v.val : Int)) % 64 = (x.val : Int) % 64 ∧ 0 ≤ bits .xor .u8 (x.val : Int) (64 * (v.val : Int))) ∧ bits .xor .u8 (x.val : Int) (64 * (v.val : Int)) ≤ 255 := of_decide_eq_true (by kernel_rfl)
set_option maxRecDepth 100000 in
theorem xor128 : ∀ x : Fin 256, (bits .xor .u8 (x.val : Int) 128 % 128 = (x.val : Int) % 128 ∧ 0 ≤ bits .xor .u8 (x.val : Int) 128) ∧ bits .xor .u8 (x.val : Int) 128 ≤ 255 := of_decide_eq_true (by kernel_rfl)
theorem fin_of (n : Nat) (x : Int) (h : 0 ≤ x ∧ x < n) : ∃ y : Fin n, x = (y.val : Int) := ⟨⟨x.toNat, by omega⟩, by simp only; omega⟩
theorem xor8i (x v : Int) (h : 0 ≤ x ∧ x ≤ 255) (hv : 0 ≤ v ∧ v < 8) : bits .xor .u8 x v / 8 = x / 8 ∧ 0 ≤ bits .xor .u8 x v ∧ bits .xor .u8 x v ≤ 255 := by
  obtain ⟨y, hy⟩ := fin_of 256 x (by omega)
  obtain ⟨z, hz⟩ := fin_of 8 v (by omega)
  subst hy; subst hz
  have := xor8 y z
  exact ⟨this.1.1, this.1.2, this.2⟩
theorem xor64i (x v : Int) (h : 0 ≤ x ∧ x ≤ 255) (hv : 0 ≤ v ∧ v < 4) : bits .xor .u8 x (64 * v) % 64 = x % 64 ∧ 0 ≤ bits .xor .u8 x (64 * v) ∧ bits .xor .u8 x (64 * v) ≤ 255 := by
  obtain ⟨y, hy⟩ := fin_of 256 x (by omega)
  obtain ⟨z, hz⟩ := fin_of 4 v (by omega)
  subst hy; subst hz
  have := xor64 y z
  exact ⟨this.1.1, this.1.2, this.2⟩
theorem xor128i (x : Int) (h : 0 ≤ x ∧ x ≤ 255) : bits .xor .u8 x 128 % 128 = x % 128 ∧ 0 ≤ bits .xor .u8 x 128 ∧ bits .xor .u8 x 128 ≤ 255 := by
  obtain ⟨y, hy⟩ := fin_of 256 x (by omega)
  subst hy
  have := xor128 y
  exact ⟨this.1.1, this.1.2, this.2⟩
theorem getD_put (l : List Int) (k : Nat) (v : Int) (hk : k < l.length) (i : Nat) : (l.set k v).getD i 0 = if i = k then v else l.getD i 0 := by
  rw [List.getD_eq_getElem?_getD, List.getElem?_set, List.getD_eq_getElem?_getD]
  by_cases h : k = i
  · subst h
    simp [hk]
  · rw [if_neg h, if_neg (fun e => h e.symm)]
theorem smL_bits (l l' p : List Int) (h : ∀ n, bitB l' n = bitB l n) : smL l' p = smL l p := by
  have e : bitB l' = bitB l := funext h
  unfold smL smN
  rw [e]
theorem smL_pt (l p p' : List Int) (h : ptL p' = ptL p) : smL l p' = smL l p := by
  unfold smL smN
  rw [h]
/-- The lowest three bits. -/
theorem smL_low (l p : List Int) (x : Int) (hl : l.length = 32) (hx : x / 8 = l.getD 0 0 / 8) : smL (l.set 0 x) p = smL l p := by
  refine smL_bits l _ p (fun n => ?_)
  unfold bitB bitS
  by_cases h1 : n = 255 ∨ n < 3
  · rw [if_pos h1, if_pos h1]
  · rw [if_neg h1, if_neg h1]
    by_cases h2 : n = 254
    · rw [if_pos h2, if_pos h2]
    · rw [if_neg h2, if_neg h2, getD_put l 0 x (by omega)]
      by_cases h3 : n / 8 = 0
      · rw [if_pos h3, h3]
        have h4 : n = 3 ∨ n = 4 ∨ n = 5 ∨ n = 6 ∨ n = 7 := by omega
        generalize l.getD 0 0 = y at *
        have e : x / 2 ^ (n % 8) % 2 = y / 2 ^ (n % 8) % 2 := by
          rcases h4 with h | h | h | h | h <;> subst h
          · show x / 8 % 2 = y / 8 % 2; omega
          · show x / 16 % 2 = y / 16 % 2; omega
          · show x / 32 % 2 = y / 32 % 2; omega
          · show x / 64 % 2 = y / 64 % 2; omega
          · show x / 128 % 2 = y / 128 % 2; omega
        rw [e]
      · rw [if_neg h3]
/-- The highest two bits. -/
theorem smL_high (l p : List Int) (x : Int) (hl : l.length = 32) (hx : x % 64 = l.getD 31 0 % 64) : smL (l.set 31 x) p = smL l p := by
  refine smL_bits l _ p (fun n => ?_)
  unfold bitB bitS
  by_cases h1 : n = 255 ∨ n < 3
  · rw [if_pos h1, if_pos h1]
  · rw [if_neg h1, if_neg h1]
    by_cases h2 : n = 254
    · rw [if_pos h2, if_pos h2]
    · rw [if_neg h2, if_neg h2, getD_put l 31 x (by omega)]
      by_cases h3 : n / 8 = 31
      · rw [if_pos h3, h3]
        have h4 : n = 248 ∨ n = 249 ∨ n = 250 ∨ n = 251 ∨ n = 252 ∨ n = 253 := by omega
        generalize l.getD 31 0 = y at *
        have e : x / 2 ^ (n % 8) % 2 = y / 2 ^ (n % 8) % 2 := by
          rcases h4 with h | h | h | h | h | h <;> subst h
          · show x / 1 % 2 = y / 1 % 2; omega
          · show x / 2 % 2 = y / 2 % 2; omega
          · show x / 4 % 2 = y / 4 % 2; omega
          · show x / 8 % 2 = y / 8 % 2; omega
          · show x / 16 % 2 = y / 16 % 2; omega
          · show x / 32 % 2 = y / 32 % 2; omega
        rw [e]
      · rw [if_neg h3]
/-- The point's last bit. -/
theorem smL_top (l p : List Int) (x : Int) (hp : p.length = 32) (hx : x % 128 = p.getD 31 0 % 128) : smL l (p.set 31 x) = smL l p := by
  refine smL_pt l p _ ?_
  unfold ptL
  rw [getD_put p 31 x (by omega), if_pos rfl, List.set_set, hx]
/-- All that the law asks of the products. -/
theorem agree_all (a b : List Int) (ha : a.length = 32) (hab : Bytes a) (v u : Int) (hv : 0 ≤ v ∧ v < 8) (hu : 0 ≤ u ∧ u < 4) :
    smL a (smL b nineL) = smL b (smL a nineL) ∧
    smL ((a.set 0 (bits .xor .u8 (a.getD 0 0) v)).set 31 (bits .xor .u8 (a.getD 31 0) (64 * u))) ((smL b nineL).set 31 (bits .xor .u8 ((smL b nineL).getD 31 0) 128)) = smL a (smL b nineL) := by
  refine ⟨AG.agreeL a b, ?_⟩
  have e31 : (a.set 0 (bits .xor .u8 (a.getD 0 0) v)).getD 31 0 = a.getD 31 0 := by rw [getD_put a 0 _ (by omega), if_neg (by decide)]
  have hb31 : 0 ≤ (smL b nineL).getD 31 0 ∧ (smL b nineL).getD 31 0 ≤ 255 := leN_bytes _ _ 31
  rw [smL_high _ _ _ (by simp [ha]) (by rw [e31]; exact (xor64i _ u (hab 31) hu).1), smL_low _ _ _ ha (xor8i _ v (hab 0) hv).1, smL_top _ _ _ (smL_length _ _) (xor128i _ hb31).1]
end Go.Proofs.Ytikicljlgfgfbaa
/- FnAgree. Written by mk_FG.py. -/
namespace Go.Proofs.Ytikicljlgfgfbaa
open Go.RowKit
set_option linter.unusedVariables false
theorem wrap_small (x : Int) (h : 0 ≤ x ∧ x ≤ 2000) : IntKind.i64.wrap x = x := by simp only [IntKind.wrap, IntKind.bits, IntKind.signed]; simp; omega
theorem Fc.subR {w0 : World} {g : Nat} {ta : Option Addr} {zs : List Int} {c : Nat} {R R' : List (Nat × List Int × TypeId)} {W : World} (h : Fc w0 g ta zs c R [] W) (hs : ∀ r ∈ R', r ∈ R) : Fc w0 g ta zs c R' [] W := ⟨h.bel, h.le, h.drw, fun r hr => h.row r (hs r hr), h.own⟩
theorem Fc.putR {w0 : World} {g : Nat} {ta : Option Addr} {zs : List Int} {c : Nat} {R : List (Nat × List Int × TypeId)} {W W' : World} {b : Nat} {l : List Int} {t : TypeId} (h : Fc w0 g ta zs c R [] W) (hP : Put W b (Iv .u8 l) t W') (hb : g < b) (hne : ∀ r ∈ R, r.1 ≠ b) : Fc w0 g ta zs c ((b, l, t) :: R) [] W' :=
  have hle := h.le
  ⟨hP.below _ _ h.bel (by omega), h.le, h.drw.later (hP.below b W (Below.refl _ _) (Nat.le_refl _)) hb, fun r hr => by
    rcases List.mem_cons.1 hr with rfl | hr
    · exact ⟨by simp only; omega, (Array.getElem?_eq_some_iff.1 hP.here).1, hP.here⟩
    · have k := h.row r hr
      exact ⟨k.1, by rw [hP.size]; exact k.2.1, (hP.far _ (hne r hr)).trans k.2.2⟩, fun o ho => (by cases ho)⟩
set_option maxRecDepth 100000 in
set_option maxHeartbeats 8000000 in
theorem agree_walk (zs : List Int) (n c : Nat) (hn : zs.length = n) (hle : n ≤ 1048576) (hzb : Bytes zs) (ta : Option Addr) (w : World)
    (hc : ∀ i, i < zs.length → ∃ b o, ta = some ⟨b, o, none⟩ ∧ b < w.heap.size ∧ w.cell? ⟨b, o + i, none⟩ = some (.int .u8 (zs.getD i 0))) :
    Calls Try.prog 7 #[.slice ta n c] w fun e w' => e = .returned (.bool true) ∧ Below w.heap.size w w' := by
  have hi32 : Hid (∀ l : List Int, l.length = 32 → (Try.prog.info? 22).map (·.size) = some (Iv .u8 l).size) := fun l hl => info32L hl
  have hs32 : Hid (∀ l : List Int, l.length = 32 → (Iv .u8 (zeroL 32)).size = (Iv .u8 l).size) := fun l hl => zero32L hl
  have hz32 := zeroC32
  have HB : Hid _ := hzb
  have hzs : zs.length ≤ 2000000 := by omega
  have hle' : ((1048576 : Int) < n) = False := by simp; omega
  have HDR := draw_any ta zs c w hzs hc
  rw [hn] at HDR
  have HD0 : Hid _ := HDR
  clear HDR hc hzb hn
  go_enter Try.func7, Try.ntmps7
  go_wp2_with fail
  refine Calls.mono HD0.out ?_
  rintro e w1 ⟨g, rfl, hg, hd, hb⟩
  have F_w1 : Hid (Fc w g ta zs c [] [] w1) := Fc.start hb hg hd
  clear hd hb HD0
  go_wp2_with fail
  refine (drawKey_any g ta zs c w1 F_w1.out.drw HB.out hzs).mono ?_
  rintro e w2 ⟨A, rfl, hAl, hAb, hd, hk⟩
  have F_w2 : Hid (Fc w g ta zs c [] [] w2) := F_w1.out.keep hd hk
  clear hd hk F_w1
  have KA : Hid ((w2.alloc (.cells (Iv .u8 (zeroL 32)) 22)).heap[w2.heap.size]? = some (.cells (Iv .u8 (zeroL 32)) 22)) := heap_alloc_new _ _
  go_wp2_with (refine wpList_put_row rfl 22 _ _ rfl w2.heap.size (Iv .u8 A) rfl rfl _ _ KA.out (hi32.out A hAl) (hs32.out A hAl) (Iv_one _ _) (fun w3 hP => stop_here ?_))
  refine hid_mk ?_
  have F_w30 := F_w2.out.newRow hP
  have gt_b4 : g < w2.heap.size := F_w2.out.lt
  obtain ⟨b4, eb4⟩ : ∃ x, x = w2.heap.size := ⟨_, rfl⟩
  rw [← eb4] at F_w30 gt_b4  ⊢
  have F_w3 : Hid (Fc w g ta zs c [(b4, A, 22)] [] w3) := F_w30
  clear F_w30 hP KA F_w2 eb4
  go_wp2_with fail
  refine (drawKey_any g ta zs c w3 F_w3.out.drw HB.out hzs).mono ?_
  rintro e w4 ⟨B, rfl, hBl, hBb, hd, hk⟩
  have F_w4 : Hid (Fc w g ta zs c [(b4, A, 22)] [] w4) := F_w3.out.keep hd hk
  clear hd hk F_w3
  have KA : Hid ((w4.alloc (.cells (Iv .u8 (zeroL 32)) 22)).heap[w4.heap.size]? = some (.cells (Iv .u8 (zeroL 32)) 22)) := heap_alloc_new _ _
  go_wp2_with (refine wpList_put_row rfl 22 _ _ rfl w4.heap.size (Iv .u8 B) rfl rfl _ _ KA.out (hi32.out B hBl) (hs32.out B hBl) (Iv_one _ _) (fun w5 hP => stop_here ?_))
  refine hid_mk ?_
  have F_w50 := F_w4.out.newRow hP
  have ne_b4_b5 : b4 < w4.heap.size := (F_w4.out.row _ List.mem_cons_self).2.1
  have gt_b5 : g < w4.heap.size := F_w4.out.lt
  obtain ⟨b5, eb5⟩ : ∃ x, x = w4.heap.size := ⟨_, rfl⟩
  rw [← eb5] at F_w50 gt_b5 ne_b4_b5 ⊢
  have F_w5 : Hid (Fc w g ta zs c [(b5, B, 22), (b4, A, 22)] [] w5) := F_w50
  clear F_w50 hP KA F_w4 eb5
  go_wp2_with fail
  refine (drawN_any g ta zs c 1000 w5 F_w5.out.drw HB.out hzs (by decide)).mono ?_
  rintro e w6 ⟨m, hm0, hm1, rfl, hd, cs, hP⟩
  have hk := (Keeps.refl g _).put hP
  have F_w6 : Hid (Fc w g ta zs c [(b5, B, 22), (b4, A, 22)] [] w6) := F_w5.out.keep hd hk
  clear hd hk hP F_w5
  have hW0 : Hid (IntKind.i64.wrap (m + 0 + 1) = m + 1) := by show _ = _; rw [wrap_small _ (by omega)]; omega
  have hW1 : Hid (IntKind.i64.wrap (m + 1 + 1) = m + 2) := by show _ = _; rw [wrap_small _ (by omega)]; omega
  have hW2 : Hid (IntKind.i64.wrap (m + 2 + 1) = m + 3) := by show _ = _; rw [wrap_small _ (by omega)]; omega
  have hW3 : Hid (IntKind.i64.wrap (m + 3 + 1) = m + 4) := by show _ = _; rw [wrap_small _ (by omega)]; omega
  have hm : m = m + 0 := by omega
  have hpAl := smL_length A nineL
  have hpAb : Bytes (smL A nineL) := leN_bytes _ _
  have hpBl := smL_length B nineL
  have hpBb : Bytes (smL B nineL) := leN_bytes _ _
  have AX : Hid (∀ v u : Int, 0 ≤ v ∧ v < 8 → 0 ≤ u ∧ u < 4 → _) := fun v u hv hu => agree_all A B hAl hAb v u hv hu
  have hXl := smL_length A (smL B nineL)
  have AE : Hid (smL A (smL B nineL) = smL B (smL A nineL)) := AG.agreeL A B
  obtain ⟨X, eX⟩ : ∃ x, smL A (smL B nineL) = x := ⟨_, rfl⟩
  rw [eX] at AX AE hXl
  have HX : Hid _ := eX
  clear eX
  have CA : Hid (∀ W, _) := fun W => implPublicKey_any A m hAl hAb W
  have CB : Hid (∀ W, _) := fun W => implPublicKey_any B (m + 1) hBl hBb W
  have CX : Hid (∀ W, _) := fun W => implScalarMult_any A (smL B nineL) (m + 2) hAl hpBl hAb hpBb W
  have CY : Hid (∀ W, _) := fun W => implScalarMult_any B (smL A nineL) (m + 3) hBl hpAl hBb hpAb W
  rw [show IntKind.i64.wrap (m + 1) = m + 1 from wrap_small _ (by omega)] at CA
  rw [show IntKind.i64.wrap (m + 1 + 1) = m + 2 from (wrap_small _ (by omega)).trans (by omega)] at CB
  rw [show IntKind.i64.wrap (m + 2 + 1) = m + 3 from (wrap_small _ (by omega)).trans (by omega), HX.out] at CX
  rw [show IntKind.i64.wrap (m + 3 + 1) = m + 4 from (wrap_small _ (by omega)).trans (by omega), ← AE.out] at CY
  obtain ⟨PA, ePA⟩ : ∃ x, smL A nineL = x := ⟨_, rfl⟩
  obtain ⟨PB, ePB⟩ : ∃ x, smL B nineL = x := ⟨_, rfl⟩
  rw [ePA] at CA CY hpAl hpAb
  rw [ePB] at CB CX AX hpBl hpBb
  clear ePA ePB hW0 hW1 hW2 hW3 hm AE HX
  have G0 : Hid _ := (F_w6.out.row _ (List.mem_cons_of_mem _ List.mem_cons_self)).2.2
  go_wp2_with (first
    | refine wpList_load_row rfl 22 _ rfl b4 rfl _ (Iv .u8 A) _ _ G0.out Try.underlying22 rfl (hi32.out A hAl) ?_)
  refine (CA.out _).mono ?_
  rintro e w7 ⟨rfl, hb⟩
  have F_w7 : Hid (Fc w g ta zs c [(b5, B, 22), (b4, A, 22)] [] w7) := F_w6.out.later hb (Nat.le_refl _)
  clear hb F_w6 G0
  have KA : Hid ((w7.alloc (.cells (Iv .u8 (zeroL 32)) 22)).heap[w7.heap.size]? = some (.cells (Iv .u8 (zeroL 32)) 22)) := heap_alloc_new _ _
  go_wp2_with (refine wpList_put_row rfl 22 _ _ rfl w7.heap.size (Iv .u8 PA) rfl rfl _ _ KA.out (hi32.out PA hpAl) (hs32.out PA hpAl) (Iv_one _ _) (fun w8 hP => stop_here ?_))
  refine hid_mk ?_
  have F_w80 := F_w7.out.newRow hP
  have ne_b5_b7 : b5 < w7.heap.size := (F_w7.out.row _ List.mem_cons_self).2.1
  have ne_b4_b7 : b4 < w7.heap.size := (F_w7.out.row _ (List.mem_cons_of_mem _ List.mem_cons_self)).2.1
  have gt_b7 : g < w7.heap.size := F_w7.out.lt
  obtain ⟨b7, eb7⟩ : ∃ x, x = w7.heap.size := ⟨_, rfl⟩
  rw [← eb7] at F_w80 gt_b7 ne_b5_b7 ne_b4_b7 ⊢
  have F_w8 : Hid (Fc w g ta zs c [(b7, PA, 22), (b5, B, 22), (b4, A, 22)] [] w8) := F_w80
  clear F_w80 hP KA F_w7 eb7
  have G0 : Hid _ := (F_w8.out.row _ (List.mem_cons_of_mem _ List.mem_cons_self)).2.2
  go_wp2_with (first
    | refine wpList_load_row rfl 22 _ rfl b5 rfl _ (Iv .u8 B) _ _ G0.out Try.underlying22 rfl (hi32.out B hBl) ?_)
  refine (CB.out _).mono ?_
  rintro e w9 ⟨rfl, hb⟩
  have F_w9 : Hid (Fc w g ta zs c [(b7, PA, 22), (b5, B, 22), (b4, A, 22)] [] w9) := F_w8.out.later hb (Nat.le_refl _)
  clear hb F_w8 G0
  have KA : Hid ((w9.alloc (.cells (Iv .u8 (zeroL 32)) 22)).heap[w9.heap.size]? = some (.cells (Iv .u8 (zeroL 32)) 22)) := heap_alloc_new _ _
  go_wp2_with (refine wpList_put_row rfl 22 _ _ rfl w9.heap.size (Iv .u8 PB) rfl rfl _ _ KA.out (hi32.out PB hpBl) (hs32.out PB hpBl) (Iv_one _ _) (fun w10 hP => stop_here ?_))
  refine hid_mk ?_
  have F_w100 := F_w9.out.newRow hP
  have ne_b7_b9 : b7 < w9.heap.size := (F_w9.out.row _ List.mem_cons_self).2.1
  have ne_b5_b9 : b5 < w9.heap.size := (F_w9.out.row _ (List.mem_cons_of_mem _ List.mem_cons_self)).2.1
  have ne_b4_b9 : b4 < w9.heap.size := (F_w9.out.row _ (List.mem_cons_of_mem _ (List.mem_cons_of_mem _ List.mem_cons_self))).2.1
  have gt_b9 : g < w9.heap.size := F_w9.out.lt
  obtain ⟨b9, eb9⟩ : ∃ x, x = w9.heap.size := ⟨_, rfl⟩
  rw [← eb9] at F_w100 gt_b9 ne_b7_b9 ne_b5_b9 ne_b4_b9 ⊢
  have F_w10 : Hid (Fc w g ta zs c [(b9, PB, 22), (b7, PA, 22), (b5, B, 22), (b4, A, 22)] [] w10) := F_w100
  clear F_w100 hP KA F_w9 eb9
  have G0 : Hid _ := (F_w10.out.row _ (List.mem_cons_of_mem _ (List.mem_cons_of_mem _ (List.mem_cons_of_mem _ List.mem_cons_self)))).2.2
  have G1 : Hid _ := (F_w10.out.row _ List.mem_cons_self).2.2
  go_wp2_with (first
    | refine wpList_load_row rfl 22 _ rfl b4 rfl _ (Iv .u8 A) _ _ G0.out Try.underlying22 rfl (hi32.out A hAl) ?_
    | refine wpList_load_row rfl 22 _ rfl b9 rfl _ (Iv .u8 PB) _ _ G1.out Try.underlying22 rfl (hi32.out PB hpBl) ?_)
  refine (CX.out _).mono ?_
  rintro e w11 ⟨rfl, hb⟩
  have F_w11 : Hid (Fc w g ta zs c [(b9, PB, 22), (b7, PA, 22), (b5, B, 22), (b4, A, 22)] [] w11) := F_w10.out.later hb (Nat.le_refl _)
  clear hb F_w10 G0 G1
  have KA : Hid ((w11.alloc (.cells (Iv .u8 (zeroL 32)) 22)).heap[w11.heap.size]? = some (.cells (Iv .u8 (zeroL 32)) 22)) := heap_alloc_new _ _
  go_wp2_with (refine wpList_put_row rfl 22 _ _ rfl w11.heap.size (Iv .u8 X) rfl rfl _ _ KA.out (hi32.out X hXl) (hs32.out X hXl) (Iv_one _ _) (fun w12 hP => stop_here ?_))
  refine hid_mk ?_
  have F_w120 := F_w11.out.newRow hP
  have ne_b9_b11 : b9 < w11.heap.size := (F_w11.out.row _ List.mem_cons_self).2.1
  have ne_b7_b11 : b7 < w11.heap.size := (F_w11.out.row _ (List.mem_cons_of_mem _ List.mem_cons_self)).2.1
  have ne_b5_b11 : b5 < w11.heap.size := (F_w11.out.row _ (List.mem_cons_of_mem _ (List.mem_cons_of_mem _ List.mem_cons_self))).2.1
  have ne_b4_b11 : b4 < w11.heap.size := (F_w11.out.row _ (List.mem_cons_of_mem _ (List.mem_cons_of_mem _ (List.mem_cons_of_mem _ List.mem_cons_self)))).2.1
  have gt_b11 : g < w11.heap.size := F_w11.out.lt
  obtain ⟨b11, eb11⟩ : ∃ x, x = w11.heap.size := ⟨_, rfl⟩
  rw [← eb11] at F_w120 gt_b11 ne_b9_b11 ne_b7_b11 ne_b5_b11 ne_b4_b11 ⊢
  have F_w12 : Hid (Fc w g ta zs c [(b11, X, 22), (b9, PB, 22), (b7, PA, 22), (b5, B, 22), (b4, A, 22)] [] w12) := F_w120
  clear F_w120 hP KA F_w11 eb11
  have G0 : Hid _ := (F_w12.out.row _ (List.mem_cons_of_mem _ (List.mem_cons_of_mem _ (List.mem_cons_of_mem _ List.mem_cons_self)))).2.2
  have G1 : Hid _ := (F_w12.out.row _ (List.mem_cons_of_mem _ (List.mem_cons_of_mem _ List.mem_cons_self))).2.2
  go_wp2_with (first
    | refine wpList_load_row rfl 22 _ rfl b5 rfl _ (Iv .u8 B) _ _ G0.out Try.underlying22 rfl (hi32.out B hBl) ?_
    | refine wpList_load_row rfl 22 _ rfl b7 rfl _ (Iv .u8 PA) _ _ G1.out Try.underlying22 rfl (hi32.out PA hpAl) ?_)
  refine (CY.out _).mono ?_
  rintro e w13 ⟨rfl, hb⟩
  have F_w13 : Hid (Fc w g ta zs c [(b11, X, 22), (b9, PB, 22), (b7, PA, 22), (b5, B, 22), (b4, A, 22)] [] w13) := F_w12.out.later hb (Nat.le_refl _)
  clear hb F_w12 G0 G1
  have KA : Hid ((w13.alloc (.cells (Iv .u8 (zeroL 32)) 22)).heap[w13.heap.size]? = some (.cells (Iv .u8 (zeroL 32)) 22)) := heap_alloc_new _ _
  go_wp2_with (refine wpList_put_row rfl 22 _ _ rfl w13.heap.size (Iv .u8 X) rfl rfl _ _ KA.out (hi32.out X hXl) (hs32.out X hXl) (Iv_one _ _) (fun w14 hP => stop_here ?_))
  refine hid_mk ?_
  have F_w140 := F_w13.out.newRow hP
  have ne_b11_b13 : b11 < w13.heap.size := (F_w13.out.row _ List.mem_cons_self).2.1
  have ne_b9_b13 : b9 < w13.heap.size := (F_w13.out.row _ (List.mem_cons_of_mem _ List.mem_cons_self)).2.1
  have ne_b7_b13 : b7 < w13.heap.size := (F_w13.out.row _ (List.mem_cons_of_mem _ (List.mem_cons_of_mem _ List.mem_cons_self))).2.1
  have ne_b5_b13 : b5 < w13.heap.size := (F_w13.out.row _ (List.mem_cons_of_mem _ (List.mem_cons_of_mem _ (List.mem_cons_of_mem _ List.mem_cons_self)))).2.1
  have ne_b4_b13 : b4 < w13.heap.size := (F_w13.out.row _ (List.mem_cons_of_mem _ (List.mem_cons_of_mem _ (List.mem_cons_of_mem _ (List.mem_cons_of_mem _ List.mem_cons_self))))).2.1
  have gt_b13 : g < w13.heap.size := F_w13.out.lt
  obtain ⟨b13, eb13⟩ : ∃ x, x = w13.heap.size := ⟨_, rfl⟩
  rw [← eb13] at F_w140 gt_b13 ne_b11_b13 ne_b9_b13 ne_b7_b13 ne_b5_b13 ne_b4_b13 ⊢
  have F_w14 : Hid (Fc w g ta zs c [(b13, X, 22), (b11, X, 22), (b9, PB, 22), (b7, PA, 22), (b5, B, 22), (b4, A, 22)] [] w14) := F_w140
  clear F_w140 hP KA F_w13 eb13
  have G0 : Hid _ := (F_w14.out.row _ (List.mem_cons_of_mem _ List.mem_cons_self)).2.2
  have G1 : Hid _ := (F_w14.out.row _ List.mem_cons_self).2.2
  go_wp2_with (first
    | refine wpList_load_row rfl 22 _ rfl b11 rfl _ (Iv .u8 X) _ _ G0.out Try.underlying22 rfl (hi32.out X hXl) ?_
    | refine wpList_load_row rfl 22 _ rfl b13 rfl _ (Iv .u8 X) _ _ G1.out Try.underlying22 rfl (hi32.out X hXl) ?_
    | refine wpList_neqs (by kernel_rfl) (Iv .u8 X) rfl rfl (eqF32 _ hXl) guardF32 ?_)
  clear G0 G1
  have F_s : Hid (Fc w g ta zs c [(b4, A, 22), (b9, PB, 22), (b11, X, 22)] [] w14) := F_w14.out.subR (by intro r hr; simp only [List.mem_cons, List.not_mem_nil, or_false] at hr ⊢; rcases hr with h | h | h <;> simp [h])
  clear F_w14
  go_wp2_with fail
  have F_d : Hid (Fc w g ta zs c [(b4, A, 22), (b9, PB, 22), (b11, X, 22)] [] w14.drew) := F_s.out.later (below_drews (Below.refl w14.heap.size w14) 1) (Nat.le_refl _)
  clear F_s
  refine wp_region_tree 7 (fun w' => ∃ y : Wp (fun v => Fc w g ta zs c [(b4, A, 22), (b9, PB, 22), (b11, X, 22)] [] v), w' = y.w) (.held [0, 1, 2] (.tail 3 (.held [4, 5, 6] (.last 7 .done)))) mixC (by kernel_rfl) ⟨⟨_, F_d.out⟩, rfl⟩ ?_
  obtain ⟨w15, eV⟩ : ∃ q, q = w14.drew := ⟨_, rfl⟩
  rw [← eV] at F_d ⊢
  clear eV
  obtain ⟨s0, es0⟩ : ∃ q, A.getD 0 0 = q := ⟨_, rfl⟩
  have ES : Hid _ := es0
  clear es0
  have hjl : 0 < A.length := by rw [hAl]; decide
  refine wpTr_held ?_
  simp only [opsAt_cons, opsAt_nil, nthOp_zero, nthOp_succ, List.cons_append, List.nil_append]
  refine quietVal rfl (.pointer (some ⟨b4, 0, none⟩)) (fun w' => by kernel_rfl) ?_
  simp only [Act.put, List.setIfInBounds_toArray, List.set_cons_succ, List.set_cons_zero]
  refine quietIn rfl (.int .u8 s0) (fun w' hw' => by obtain ⟨y, rfl⟩ := hw'; exact run_cell 5 _ rfl ⟨b4, 0, none⟩ rfl .u8 Try.underlying5 _ _ (by have h9 := (Sl.of_row (y.p.row _ List.mem_cons_self).2.2).2 0 hjl; rw [Nat.zero_add, ES.out] at h9; exact h9)) ?_
  simp only [Act.put, List.setIfInBounds_toArray, List.set_cons_succ, List.set_cons_zero]
  refine quietVal rfl (.pointer (some ⟨g, 0, none⟩)) (fun w' => by kernel_rfl) ?_
  simp only [Act.put, List.setIfInBounds_toArray, List.set_cons_succ, List.set_cons_zero]
  refine wpQuiet_nil ?_
  refine wpTr_tail ?_
  simp only [opsAt_cons, opsAt_nil, nthOp_zero, nthOp_succ, List.cons_append, List.nil_append]
  go_wp2_with fail
  refine (drawN_any g ta zs c 8 _ F_d.out.drw HB.out hzs (by decide)).mono ?_
  rintro e9 w16 ⟨v, hv0, hv1, rfl, hD, cs9, hP⟩
  have hK := (Keeps.refl g _).put hP
  have F_e : Hid (Fc w g ta zs c [(b4, A, 22), (b9, PB, 22), (b11, X, 22)] [] w16) := F_d.out.keep hD hK
  clear F_d hD hK hP
  go_wp2_with fail
  refine ⟨⟨⟨_, F_e.out⟩, rfl⟩, ?_⟩
  refine wpTr_held ?_
  simp only [opsAt_cons, opsAt_nil, nthOp_zero, nthOp_succ, List.cons_append, List.nil_append]
  refine quietVal rfl (.int .u8 (IntKind.u8.wrap v)) (fun w' => by kernel_rfl) ?_
  simp only [Act.put, List.setIfInBounds_toArray, List.set_cons_succ, List.set_cons_zero]
  refine quietVal rfl (.int .u8 (bits .xor .u8 s0 (IntKind.u8.wrap v))) (fun w' => by kernel_rfl) ?_
  simp only [Act.put, List.setIfInBounds_toArray, List.set_cons_succ, List.set_cons_zero]
  refine quietVal rfl (.pointer (some ⟨b4, 0, none⟩)) (fun w' => by kernel_rfl) ?_
  simp only [Act.put, List.setIfInBounds_toArray, List.set_cons_succ, List.set_cons_zero]
  refine wpQuiet_nil ?_
  have ROW : Hid (w16.heap[b4]? = some (.cells (Iv .u8 A) 22)) := (F_e.out.row _ List.mem_cons_self).2.2
  have co : w16.cell? ⟨b4, 0, none⟩ = some (.int .u8 s0) := by have h9 := (Sl.of_row ROW.out).2 0 hjl; rw [Nat.zero_add, ES.out] at h9; exact h9
  have fv : w16.frozen? ⟨b4, 0, none⟩ = false := frozen_of_row _ _ _ _ _ ROW.out
  obtain ⟨V1, eV⟩ : ∃ q, bits .xor .u8 s0 (IntKind.u8.wrap v) = q := ⟨_, rfl⟩
  rw [eV]
  refine wpTr_last ?_
  simp only [opsAt_cons, opsAt_nil, nthOp_zero, nthOp_succ, List.cons_append, List.nil_append]
  go_wp2_with fail
  refine last_tr ?_
  have hP := put_cell1 ROW.out 0 (.int .u8 V1)
  rw [Iv_set] at hP
  obtain ⟨w17, eW⟩ : ∃ q, q = w16.setCell ⟨b4, 0, none⟩ (.int .u8 V1) := ⟨_, rfl⟩
  rw [← eW] at hP ⊢
  rw [← eV] at hP
  clear eV eW
  have F_f : Hid (Fc w g ta zs c [(b9, PB, 22), (b11, X, 22)] [] w16) := F_e.out.subR (by intro r hr; simp only [List.mem_cons, List.not_mem_nil, or_false] at hr ⊢; rcases hr with h | h <;> simp [h])
  have F_w17 : Hid (Fc w g ta zs c [(b4, A.set 0 (bits .xor .u8 s0 (IntKind.u8.wrap v)), 22), (b9, PB, 22), (b11, X, 22)] [] w17) := F_f.out.putR hP (by omega) (by intro r hr; simp only [List.mem_cons, List.not_mem_nil, or_false] at hr; rcases hr with h | h <;> subst h <;> simp only <;> omega)
  clear F_f hP co fv ROW F_e
  rw [← ES.out] at F_w17
  clear ES hjl
  have hwv : IntKind.u8.wrap v = v := by simp only [IntKind.wrap, IntKind.bits, IntKind.signed]; simp; omega
  rw [hwv] at F_w17
  have hA1b : Bytes (A.set 0 (bits .xor .u8 (A.getD 0 0) v)) := hAb.put 0 _ (xor8i _ v (hAb 0) ⟨hv0, hv1⟩).2
  have hA1l : (A.set 0 (bits .xor .u8 (A.getD 0 0) v)).length = 32 := by rw [List.length_set, hAl]
  have e31 : (A.set 0 (bits .xor .u8 (A.getD 0 0) v)).getD 31 0 = A.getD 31 0 := by rw [getD_put A 0 _ (by omega), if_neg (by decide)]
  obtain ⟨A1, eA1⟩ : ∃ q, A.set 0 (bits .xor .u8 (A.getD 0 0) v) = q := ⟨_, rfl⟩
  rw [eA1] at F_w17
  rw [eA1] at hA1b hA1l e31
  go_wp2_with fail
  have F_d : Hid (Fc w g ta zs c [(b4, A1, 22), (b9, PB, 22), (b11, X, 22)] [] w17.drew) := F_w17.out.later (below_drews (Below.refl w17.heap.size w17) 1) (Nat.le_refl _)
  clear F_w17
  refine wp_region_tree 8 (fun w' => ∃ y : Wp (fun v => Fc w g ta zs c [(b4, A1, 22), (b9, PB, 22), (b11, X, 22)] [] v), w' = y.w) (.held [0, 1, 2] (.tail 3 (.held [4, 5, 6, 7] (.last 8 .done)))) mixC (by kernel_rfl) ⟨⟨_, F_d.out⟩, rfl⟩ ?_
  obtain ⟨w18, eV⟩ : ∃ q, q = w17.drew := ⟨_, rfl⟩
  rw [← eV] at F_d ⊢
  clear eV
  obtain ⟨s0, es0⟩ : ∃ q, A1.getD 31 0 = q := ⟨_, rfl⟩
  have ES : Hid _ := es0
  clear es0
  have hjl : 31 < A1.length := by rw [hA1l]; decide
  refine wpTr_held ?_
  simp only [opsAt_cons, opsAt_nil, nthOp_zero, nthOp_succ, List.cons_append, List.nil_append]
  refine quietVal rfl (.pointer (some ⟨b4, 31, none⟩)) (fun w' => by kernel_rfl) ?_
  simp only [Act.put, List.setIfInBounds_toArray, List.set_cons_succ, List.set_cons_zero]
  refine quietIn rfl (.int .u8 s0) (fun w' hw' => by obtain ⟨y, rfl⟩ := hw'; exact run_cell 5 _ rfl ⟨b4, 31, none⟩ rfl .u8 Try.underlying5 _ _ (by have h9 := (Sl.of_row (y.p.row _ List.mem_cons_self).2.2).2 31 hjl; rw [Nat.zero_add, ES.out] at h9; exact h9)) ?_
  simp only [Act.put, List.setIfInBounds_toArray, List.set_cons_succ, List.set_cons_zero]
  refine quietVal rfl (.pointer (some ⟨g, 0, none⟩)) (fun w' => by kernel_rfl) ?_
  simp only [Act.put, List.setIfInBounds_toArray, List.set_cons_succ, List.set_cons_zero]
  refine wpQuiet_nil ?_
  refine wpTr_tail ?_
  simp only [opsAt_cons, opsAt_nil, nthOp_zero, nthOp_succ, List.cons_append, List.nil_append]
  go_wp2_with fail
  refine (drawN_any g ta zs c 4 _ F_d.out.drw HB.out hzs (by decide)).mono ?_
  rintro e9 w19 ⟨u, hu0, hu1, rfl, hD, cs9, hP⟩
  have hK := (Keeps.refl g _).put hP
  have F_e : Hid (Fc w g ta zs c [(b4, A1, 22), (b9, PB, 22), (b11, X, 22)] [] w19) := F_d.out.keep hD hK
  clear F_d hD hK hP
  go_wp2_with fail
  refine ⟨⟨⟨_, F_e.out⟩, rfl⟩, ?_⟩
  refine wpTr_held ?_
  simp only [opsAt_cons, opsAt_nil, nthOp_zero, nthOp_succ, List.cons_append, List.nil_append]
  refine quietVal rfl (.int .i64 (IntKind.i64.wrap (64 * u))) (fun w' => by kernel_rfl) ?_
  simp only [Act.put, List.setIfInBounds_toArray, List.set_cons_succ, List.set_cons_zero]
  refine quietVal rfl (.int .u8 (IntKind.u8.wrap (IntKind.i64.wrap (64 * u)))) (fun w' => by kernel_rfl) ?_
  simp only [Act.put, List.setIfInBounds_toArray, List.set_cons_succ, List.set_cons_zero]
  refine quietVal rfl (.int .u8 (bits .xor .u8 s0 (IntKind.u8.wrap (IntKind.i64.wrap (64 * u))))) (fun w' => by kernel_rfl) ?_
  simp only [Act.put, List.setIfInBounds_toArray, List.set_cons_succ, List.set_cons_zero]
  refine quietVal rfl (.pointer (some ⟨b4, 31, none⟩)) (fun w' => by kernel_rfl) ?_
  simp only [Act.put, List.setIfInBounds_toArray, List.set_cons_succ, List.set_cons_zero]
  refine wpQuiet_nil ?_
  have ROW : Hid (w19.heap[b4]? = some (.cells (Iv .u8 A1) 22)) := (F_e.out.row _ List.mem_cons_self).2.2
  have co : w19.cell? ⟨b4, 31, none⟩ = some (.int .u8 s0) := by have h9 := (Sl.of_row ROW.out).2 31 hjl; rw [Nat.zero_add, ES.out] at h9; exact h9
  have fv : w19.frozen? ⟨b4, 31, none⟩ = false := frozen_of_row _ _ _ _ _ ROW.out
  obtain ⟨V1, eV⟩ : ∃ q, bits .xor .u8 s0 (IntKind.u8.wrap (IntKind.i64.wrap (64 * u))) = q := ⟨_, rfl⟩
  rw [eV]
  refine wpTr_last ?_
  simp only [opsAt_cons, opsAt_nil, nthOp_zero, nthOp_succ, List.cons_append, List.nil_append]
  go_wp2_with fail
  refine last_tr ?_
  have hP := put_cell1 ROW.out 31 (.int .u8 V1)
  rw [Iv_set] at hP
  obtain ⟨w20, eW⟩ : ∃ q, q = w19.setCell ⟨b4, 31, none⟩ (.int .u8 V1) := ⟨_, rfl⟩
  rw [← eW] at hP ⊢
  rw [← eV] at hP
  clear eV eW
  have F_f : Hid (Fc w g ta zs c [(b9, PB, 22), (b11, X, 22)] [] w19) := F_e.out.subR (by intro r hr; simp only [List.mem_cons, List.not_mem_nil, or_false] at hr ⊢; rcases hr with h | h <;> simp [h])
  have F_w20 : Hid (Fc w g ta zs c [(b4, A1.set 31 (bits .xor .u8 s0 (IntKind.u8.wrap (IntKind.i64.wrap (64 * u)))), 22), (b9, PB, 22), (b11, X, 22)] [] w20) := F_f.out.putR hP (by omega) (by intro r hr; simp only [List.mem_cons, List.not_mem_nil, or_false] at hr; rcases hr with h | h <;> subst h <;> simp only <;> omega)
  clear F_f hP co fv ROW F_e
  rw [← ES.out] at F_w20
  clear ES hjl
  have hwu : IntKind.u8.wrap (IntKind.i64.wrap (64 * u)) = 64 * u := by simp only [IntKind.wrap, IntKind.bits, IntKind.signed]; simp; omega
  rw [hwu, e31] at F_w20
  have hA2b : Bytes (A1.set 31 (bits .xor .u8 (A.getD 31 0) (64 * u))) := hA1b.put 31 _ (xor64i _ u (hAb 31) ⟨hu0, hu1⟩).2
  have hA2l : (A1.set 31 (bits .xor .u8 (A.getD 31 0) (64 * u))).length = 32 := by rw [List.length_set, hA1l]
  have AZ := (AX.out v u ⟨hv0, hv1⟩ ⟨hu0, hu1⟩).2
  rw [eA1] at AZ
  obtain ⟨A2, eA2⟩ : ∃ q, A1.set 31 (bits .xor .u8 (A.getD 31 0) (64 * u)) = q := ⟨_, rfl⟩
  rw [eA2] at F_w20
  rw [eA2] at hA2b hA2l AZ
  clear AX eA2 eA1 e31 hwu hwv
  obtain ⟨s0, es0⟩ : ∃ q, PB.getD 31 0 = q := ⟨_, rfl⟩
  have ES : Hid _ := es0
  clear es0
  have hjl : 31 < PB.length := by rw [hpBl]; decide
  have ROW : Hid (w20.heap[b9]? = some (.cells (Iv .u8 PB) 22)) := (F_w20.out.row _ (List.mem_cons_of_mem _ List.mem_cons_self)).2.2
  have co : w20.cell? ⟨b9, 31, none⟩ = some (.int .u8 s0) := by have h9 := (Sl.of_row ROW.out).2 31 hjl; rw [Nat.zero_add, ES.out] at h9; exact h9
  have fv : w20.frozen? ⟨b9, 31, none⟩ = false := frozen_of_row _ _ _ _ _ ROW.out
  have HI8 : Hid ((Try.prog.info? 5).map (·.size) = some 1) := (by kernel_rfl : (Try.prog.info? 5).map (·.size) = some 1)
  go_wp2_with (refine wpList_put_cell rfl 5 _ _ rfl .u8 b9 31 (bits .xor .u8 s0 128) rfl rfl PB _ ROW.out HI8.out hjl (PB.set 31 (bits .xor .u8 s0 128)) rfl (fun w21 hP => stop_here ?_))
  refine hid_mk ?_
  clear HI8
  have F_f : Hid (Fc w g ta zs c [(b4, A2, 22), (b11, X, 22)] [] w20) := F_w20.out.subR (by intro r hr; simp only [List.mem_cons, List.not_mem_nil, or_false] at hr ⊢; rcases hr with h | h <;> simp [h])
  have F_w21 : Hid (Fc w g ta zs c [(b9, PB.set 31 (bits .xor .u8 s0 128), 22), (b4, A2, 22), (b11, X, 22)] [] w21) := F_f.out.putR hP (by omega) (by intro r hr; simp only [List.mem_cons, List.not_mem_nil, or_false] at hr; rcases hr with h | h <;> subst h <;> simp only <;> omega)
  clear F_f hP co fv ROW F_w20
  rw [← ES.out] at F_w21
  clear ES hjl
  have hP2b : Bytes (PB.set 31 (bits .xor .u8 (PB.getD 31 0) 128)) := hpBb.put 31 _ (xor128i _ (hpBb 31)).2
  have hP2l : (PB.set 31 (bits .xor .u8 (PB.getD 31 0) 128)).length = 32 := by rw [List.length_set, hpBl]
  obtain ⟨P2, eP2⟩ : ∃ q, PB.set 31 (bits .xor .u8 (PB.getD 31 0) 128) = q := ⟨_, rfl⟩
  rw [eP2] at F_w21
  rw [eP2] at hP2b hP2l AZ
  clear eP2
  have CZ : Hid (∀ W, _) := fun W => implScalarMult_any A2 P2 0 hA2l hP2l hA2b hP2b W
  have CW : Hid (∀ W, _) := fun W => specScalarMult_any A2 P2 0 hA2l hP2l hA2b hP2b W
  rw [AZ] at CZ CW
  have G0 : Hid _ := (F_w21.out.row _ (List.mem_cons_of_mem _ List.mem_cons_self)).2.2
  have G1 : Hid _ := (F_w21.out.row _ List.mem_cons_self).2.2
  go_wp2_with (first
    | refine wpList_load_row rfl 22 _ rfl b4 rfl _ (Iv .u8 A2) _ _ G0.out Try.underlying22 rfl (hi32.out A2 hA2l) ?_
    | refine wpList_load_row rfl 22 _ rfl b9 rfl _ (Iv .u8 P2) _ _ G1.out Try.underlying22 rfl (hi32.out P2 hP2l) ?_)
  refine (CZ.out _).mono ?_
  rintro e w22 ⟨rfl, hb⟩
  have F_w22 : Hid (Fc w g ta zs c [(b9, P2, 22), (b4, A2, 22), (b11, X, 22)] [] w22) := F_w21.out.later hb (Nat.le_refl _)
  clear hb F_w21 G0 G1
  have KA : Hid ((w22.alloc (.cells (Iv .u8 (zeroL 32)) 22)).heap[w22.heap.size]? = some (.cells (Iv .u8 (zeroL 32)) 22)) := heap_alloc_new _ _
  go_wp2_with (refine wpList_put_row rfl 22 _ _ rfl w22.heap.size (Iv .u8 X) rfl rfl _ _ KA.out (hi32.out X hXl) (hs32.out X hXl) (Iv_one _ _) (fun w23 hP => stop_here ?_))
  refine hid_mk ?_
  have F_w230 := F_w22.out.newRow hP
  have ne_b9_b15 : b9 < w22.heap.size := (F_w22.out.row _ List.mem_cons_self).2.1
  have ne_b4_b15 : b4 < w22.heap.size := (F_w22.out.row _ (List.mem_cons_of_mem _ List.mem_cons_self)).2.1
  have ne_b11_b15 : b11 < w22.heap.size := (F_w22.out.row _ (List.mem_cons_of_mem _ (List.mem_cons_of_mem _ List.mem_cons_self))).2.1
  have gt_b15 : g < w22.heap.size := F_w22.out.lt
  obtain ⟨b15, eb15⟩ : ∃ x, x = w22.heap.size := ⟨_, rfl⟩
  rw [← eb15] at F_w230 gt_b15 ne_b9_b15 ne_b4_b15 ne_b11_b15 ⊢
  have F_w23 : Hid (Fc w g ta zs c [(b15, X, 22), (b9, P2, 22), (b4, A2, 22), (b11, X, 22)] [] w23) := F_w230
  clear F_w230 hP KA F_w22 eb15
  have G0 : Hid _ := (F_w23.out.row _ (List.mem_cons_of_mem _ (List.mem_cons_of_mem _ List.mem_cons_self))).2.2
  have G1 : Hid _ := (F_w23.out.row _ (List.mem_cons_of_mem _ List.mem_cons_self)).2.2
  go_wp2_with (first
    | refine wpList_load_row rfl 22 _ rfl b4 rfl _ (Iv .u8 A2) _ _ G0.out Try.underlying22 rfl (hi32.out A2 hA2l) ?_
    | refine wpList_load_row rfl 22 _ rfl b9 rfl _ (Iv .u8 P2) _ _ G1.out Try.underlying22 rfl (hi32.out P2 hP2l) ?_)
  refine (CW.out _).mono ?_
  rintro e w24 ⟨rfl, hb⟩
  have F_w24 : Hid (Fc w g ta zs c [(b15, X, 22), (b9, P2, 22), (b4, A2, 22), (b11, X, 22)] [] w24) := F_w23.out.later hb (Nat.le_refl _)
  clear hb F_w23 G0 G1
  have KA : Hid ((w24.alloc (.cells (Iv .u8 (zeroL 32)) 22)).heap[w24.heap.size]? = some (.cells (Iv .u8 (zeroL 32)) 22)) := heap_alloc_new _ _
  go_wp2_with (refine wpList_put_row rfl 22 _ _ rfl w24.heap.size (Iv .u8 X) rfl rfl _ _ KA.out (hi32.out X hXl) (hs32.out X hXl) (Iv_one _ _) (fun w25 hP => stop_here ?_))
  refine hid_mk ?_
  have F_w250 := F_w24.out.newRow hP
  have ne_b15_b17 : b15 < w24.heap.size := (F_w24.out.row _ List.mem_cons_self).2.1
  have ne_b9_b17 : b9 < w24.heap.size := (F_w24.out.row _ (List.mem_cons_of_mem _ List.mem_cons_self)).2.1
  have ne_b4_b17 : b4 < w24.heap.size := (F_w24.out.row _ (List.mem_cons_of_mem _ (List.mem_cons_of_mem _ List.mem_cons_self))).2.1
  have ne_b11_b17 : b11 < w24.heap.size := (F_w24.out.row _ (List.mem_cons_of_mem _ (List.mem_cons_of_mem _ (List.mem_cons_of_mem _ List.mem_cons_self)))).2.1
  have gt_b17 : g < w24.heap.size := F_w24.out.lt
  obtain ⟨b17, eb17⟩ : ∃ x, x = w24.heap.size := ⟨_, rfl⟩
  rw [← eb17] at F_w250 gt_b17 ne_b15_b17 ne_b9_b17 ne_b4_b17 ne_b11_b17 ⊢
  have F_w25 : Hid (Fc w g ta zs c [(b17, X, 22), (b15, X, 22), (b9, P2, 22), (b4, A2, 22), (b11, X, 22)] [] w25) := F_w250
  clear F_w250 hP KA F_w24 eb17
  have G0 : Hid _ := (F_w25.out.row _ (List.mem_cons_of_mem _ List.mem_cons_self)).2.2
  have G1 : Hid _ := (F_w25.out.row _ (List.mem_cons_of_mem _ (List.mem_cons_of_mem _ (List.mem_cons_of_mem _ (List.mem_cons_of_mem _ List.mem_cons_self))))).2.2
  have G2 : Hid _ := (F_w25.out.row _ List.mem_cons_self).2.2
  go_wp2_with (first
    | refine wpList_load_row rfl 22 _ rfl b15 rfl _ (Iv .u8 X) _ _ G0.out Try.underlying22 rfl (hi32.out X hXl) ?_
    | refine wpList_load_row rfl 22 _ rfl b11 rfl _ (Iv .u8 X) _ _ G1.out Try.underlying22 rfl (hi32.out X hXl) ?_
    | refine wpList_load_row rfl 22 _ rfl b17 rfl _ (Iv .u8 X) _ _ G2.out Try.underlying22 rfl (hi32.out X hXl) ?_
    | refine wpList_want (by kernel_rfl) (wpList_load_row rfl 22 _ rfl b15 rfl _ (Iv .u8 X) _ _ G0.out Try.underlying22 rfl (hi32.out X hXl) ?_)
    | refine wpList_want (by kernel_rfl) (wpList_load_row rfl 22 _ rfl b17 rfl _ (Iv .u8 X) _ _ G2.out Try.underlying22 rfl (hi32.out X hXl) ?_)
    | refine wpList_eqls (by kernel_rfl) (Iv .u8 X) rfl rfl (eqF32 _ hXl) guardF32 ?_)
  have B9 : Hid _ := F_w25.out.bel
  clear F_w25 G0 G1 G2
  go_wp2
  go_ret
  exact ⟨rfl, B9.out⟩
end Go.Proofs.Ytikicljlgfgfbaa
/- FnAgree, at any length. Written by mk_FG.py. -/
namespace Go.Proofs.Ytikicljlgfgfbaa
open Go.RowKit
set_option linter.unusedVariables false
set_option maxRecDepth 100000 in
set_option maxHeartbeats 4000000 in
theorem agree_any (zs : List Int) (n c : Nat) (hn : zs.length = n) (hmn : n ≤ 9223372036854775807) (hzb : Bytes zs) (ta : Option Addr) (w : World)
    (hc : ∀ i, i < zs.length → ∃ b o, ta = some ⟨b, o, none⟩ ∧ b < w.heap.size ∧ w.cell? ⟨b, o + i, none⟩ = some (.int .u8 (zs.getD i 0))) :
    Calls Try.prog 7 #[.slice ta n c] w fun e w' => e = .returned (.bool true) ∧ Below w.heap.size w w' := by
  by_cases h : 1048576 < n
  · have hi : (1048576 : Int) < n := by omega
    clear hc
    go_enter Try.func7, Try.ntmps7
    go_wp2
    go_ret
    exact ⟨rfl, Below.refl _ _⟩
  · exact agree_walk zs n c hn (by omega) hzb ta w hc
end Go.Proofs.Ytikicljlgfgfbaa
