namespace Go.Proofs.Ytikicljlgfgfbaa.AG
set_option linter.unusedVariables false
/-- A prime number, by its divisors. -/
def Pr (n : Nat) : Prop := 2 ≤ n ∧ ∀ d, d ∣ n → d = 1 ∨ d = n
theorem Pr.gcd {r : Nat} (h : Pr r) (m : Nat) : Nat.gcd m r = 1 ∨ r ∣ m := by
  rcases h.2 _ (Nat.gcd_dvd_right m r) with h1 | h1
  · exact .inl h1
  · exact .inr (h1 ▸ Nat.gcd_dvd_left m r)
def prod : List Nat → Nat
  | [] => 1
  | r :: l => r * prod l
/-- A number above one that divides a product of primes is divided by one of them. -/
theorem some_prime : ∀ (fs : List Nat) (m : Nat), (∀ r ∈ fs, Pr r) → m ∣ prod fs → 1 < m → ∃ r ∈ fs, r ∣ m
  | [], m, _, hd, hm => by
    have := Nat.le_of_dvd (by decide) (show m ∣ 1 from hd)
    omega
  | r :: fs, m, hp, hd, hm => by
    rcases (hp r List.mem_cons_self).gcd m with h | h
    · have h2 : m ∣ prod fs := Nat.Coprime.dvd_of_dvd_mul_left h hd
      obtain ⟨q, hq, hqm⟩ := some_prime fs m (fun q hq => hp q (List.mem_cons_of_mem _ hq)) h2 hm
      exact ⟨q, List.mem_cons_of_mem _ hq, hqm⟩
    · exact ⟨r, List.mem_cons_self, h⟩
/-- As many values as places: every value is taken. -/
theorem all_taken : ∀ (N : Nat) (f : Nat → Nat), (∀ i, i < N → f i < N) → (∀ i j, i < N → j < N → f i = f j → i = j) → ∀ v, v < N → ∃ i, i < N ∧ f i = v
  | 0, _, _, _, v, hv => by omega
  | N + 1, f, hf, hi, v, hv => by
    -- the place of the greatest value, exchanged with the last one
    by_cases hN : ∃ i, i < N + 1 ∧ f i = N
    · obtain ⟨i0, h0, e0⟩ := hN
      by_cases hvN : v = N
      · exact ⟨i0, h0, by omega⟩
      · have key := all_taken N (fun i => if i = i0 then f N else f i) (fun i hlt => by
          split
          · rename_i e
            have h1 := hf N (by omega)
            have h2 : f N ≠ N := fun e2 => by have := hi N i0 (by omega) h0 (by omega); omega
            omega
          · rename_i e
            have h1 := hf i (by omega)
            have h2 : f i ≠ N := fun e2 => e (hi i i0 (by omega) h0 (by omega))
            omega) (fun i j hil hjl he => by
          split at he <;> split at he
          · omega
          · rename_i e1 e2
            have := hi N j (by omega) (by omega) he
            omega
          · rename_i e1 e2
            have := hi i N (by omega) (by omega) he
            omega
          · exact hi i j (by omega) (by omega) he) v (by omega)
        obtain ⟨i, hil, he⟩ := key
        split at he
        · exact ⟨N, by omega, he⟩
        · exact ⟨i, by omega, he⟩
    · exfalso
      have h1 : ∀ i, i < N + 1 → f i < N := fun i hlt => by
        have h2 := hf i hlt
        have h3 : f i ≠ N := fun e => hN ⟨i, hlt, e⟩
        omega
      obtain ⟨i, hil, he⟩ := all_taken N f (fun i hlt => h1 i (by omega)) (fun i j a b c => hi i j (by omega) (by omega) c) (f N) (h1 N (by omega))
      have := hi i N (by omega) (by omega) he
      omega
theorem powmod (a k n : Nat) : (a % n) ^ k % n = a ^ k % n := (Nat.pow_mod a k n).symm
section
variable {n a : Nat} (hn : 2 ≤ n) (h1 : a ^ (n - 1) % n = 1)
include hn h1
/-- a can be taken off. -/
theorem cancel_a (i x y : Nat) (h : a ^ i * x % n = a ^ i * y % n) : x % n = y % n := by
  have hone : ∀ k, (a ^ (n - 1)) ^ k % n = 1 := fun k => by rw [Nat.pow_mod, h1, Nat.one_pow]; exact Nat.mod_eq_of_lt hn
  have e : ∀ z, (a ^ (n - 1)) ^ i * z % n = z % n := fun z => by rw [Nat.mul_mod, hone, Nat.one_mul, Nat.mod_mod]
  have e2 : ∀ z, a ^ (i * (n - 1) - i) * (a ^ i * z) % n = z % n := fun z => by
    rw [← Nat.mul_assoc, ← Nat.pow_add, Nat.sub_add_cancel (Nat.le_mul_of_pos_right i (by omega)), Nat.mul_comm i, Nat.pow_mul]
    exact e z
  rw [← e2 x, ← e2 y, Nat.mul_mod, h, ← Nat.mul_mod]
/-- Lucas: a number whose predecessor's prime divisors are known. -/
theorem lucas (fs : List Nat) (hf : prod fs = n - 1) (hp : ∀ r ∈ fs, Pr r) (hr : ∀ r ∈ fs, a ^ ((n - 1) / r) % n ≠ 1) : Pr n ∧ ∀ z, z % n ≠ 0 → z ^ (n - 1) % n = 1 := by
  -- no smaller power is one
  have hord : ∀ k, 0 < k → k < n - 1 → a ^ k % n ≠ 1 := by
    intro k hk0 hk1 hk
    -- the greatest common divisor of k and n - 1
    have hg : ∀ x y, a ^ x % n = 1 → a ^ y % n = 1 → a ^ (Nat.gcd x y) % n = 1 := by
      intro x
      induction x using Nat.strongRecOn with
      | ind x ih =>
        intro y hx hy
        by_cases h0 : x = 0
        · subst h0; rw [Nat.gcd_zero_left]; exact hy
        · rw [Nat.gcd_rec]
          refine ih (y % x) (Nat.mod_lt _ (by omega)) x ?_ hx
          have e : a ^ y % n = a ^ (y % x) % n := by
            conv => lhs; rw [← Nat.div_add_mod y x, Nat.pow_add, Nat.pow_mul, Nat.mul_mod, Nat.pow_mod, hx, Nat.one_pow, Nat.mod_eq_of_lt hn, Nat.one_mul, Nat.mod_mod]
          rw [← e]; exact hy
    have hd := hg k (n - 1) hk h1
    obtain ⟨q, hq⟩ := Nat.gcd_dvd_right k (n - 1)
    have hgle : Nat.gcd k (n - 1) ≤ k := Nat.le_of_dvd hk0 (Nat.gcd_dvd_left _ _)
    have hg0 : 0 < Nat.gcd k (n - 1) := Nat.gcd_pos_of_pos_left _ hk0
    have hq1 : 1 < q := by
      rcases Nat.lt_or_ge 1 q with h | h
      · exact h
      · have : Nat.gcd k (n - 1) * q ≤ Nat.gcd k (n - 1) * 1 := Nat.mul_le_mul_left _ h
        omega
    obtain ⟨r, hrm, s, hs⟩ := some_prime fs q hp ⟨Nat.gcd k (n - 1), by rw [hf, Nat.mul_comm]; exact hq⟩ hq1
    have hr2 := (hp r hrm).1
    refine hr r hrm ?_
    have e : (n - 1) / r = Nat.gcd k (n - 1) * s := by
      have e3 : n - 1 = r * (Nat.gcd k (n - 1) * s) := by
        refine hq.trans ?_
        rw [hs, ← Nat.mul_assoc, Nat.mul_comm (Nat.gcd k (n - 1)) r, Nat.mul_assoc]
      have e4 := Nat.mul_div_cancel_left (Nat.gcd k (n - 1) * s) (show 0 < r by omega)
      rw [← e3] at e4
      exact e4
    rw [e, Nat.pow_mul, Nat.pow_mod, hd, Nat.one_pow]
    exact Nat.mod_eq_of_lt hn
  have hpos : ∀ i, a ^ i % n ≠ 0 := by
    intro i hi
    have h2 : a ^ i * (a ^ (i * (n - 1) - i)) % n = 1 := by
      rw [← Nat.pow_add, Nat.add_comm, Nat.sub_add_cancel (Nat.le_mul_of_pos_right i (by omega)), Nat.mul_comm i, Nat.pow_mul, Nat.pow_mod, h1, Nat.one_pow]
      exact Nat.mod_eq_of_lt hn
    rw [Nat.mul_mod, hi, Nat.zero_mul] at h2
    simp at h2
  have hinj : ∀ i j, i < n - 1 → j < n - 1 → a ^ i % n = a ^ j % n → i = j := by
    have half : ∀ i j, i < j → j < n - 1 → a ^ i % n = a ^ j % n → False := by
      intro i j hij hj h
      have e : a ^ i * 1 % n = a ^ i * a ^ (j - i) % n := by rw [Nat.mul_one, ← Nat.pow_add, show i + (j - i) = j by omega]; exact h
      have h2 := cancel_a hn h1 i 1 (a ^ (j - i)) e
      rw [Nat.mod_eq_of_lt hn] at h2
      exact hord (j - i) (by omega) (by omega) h2.symm
    intro i j hi hj h
    rcases Nat.lt_trichotomy i j with h3 | h3 | h3
    · exact (half i j h3 hj h).elim
    · exact h3
    · exact (half j i h3 hi h.symm).elim
  have hall : ∀ z, z % n ≠ 0 → z ^ (n - 1) % n = 1 := by
    intro z hz
    have hzl : z % n < n := Nat.mod_lt _ (by omega)
    obtain ⟨i, hi, he⟩ := all_taken (n - 1) (fun i => a ^ i % n - 1) (fun i _ => by have := Nat.mod_lt (a ^ i) (show n > 0 by omega); have := hpos i; show a ^ i % n - 1 < n - 1; omega) (fun i j hi hj h => hinj i j hi hj (by have := hpos i; have := hpos j; have h : a ^ i % n - 1 = a ^ j % n - 1 := h; omega)) (z % n - 1) (by omega)
    have he2 : a ^ i % n = z % n := by have := hpos i; have he : a ^ i % n - 1 = z % n - 1 := he; omega
    rw [Nat.pow_mod, ← he2, ← Nat.pow_mod, ← Nat.pow_mul, Nat.mul_comm, Nat.pow_mul, Nat.pow_mod, h1, Nat.one_pow]
    exact Nat.mod_eq_of_lt hn
  refine ⟨⟨hn, fun d hd => ?_⟩, hall⟩
  by_cases hdn : d = n
  · exact .inr hdn
  · left
    have hdl : d < n := by have := Nat.le_of_dvd (by omega) hd; omega
    have hd0 : 0 < d := Nat.pos_of_dvd_of_pos hd (by omega)
    have h2 := hall d (by rw [Nat.mod_eq_of_lt hdl]; omega)
    have h3 : d ∣ d ^ (n - 1) := ⟨d ^ (n - 2), by rw [Nat.mul_comm, ← Nat.pow_succ]; congr 1; omega⟩
    have h4 : d ∣ 1 := by
      have : d ∣ d ^ (n - 1) % n := (Nat.dvd_mod_iff hd).2 h3
      rw [h2] at this
      exact this
    exact Nat.dvd_one.1 h4
end
end Go.Proofs.Ytikicljlgfgfbaa.AG
namespace Go.Proofs.Ytikicljlgfgfbaa.AG
set_option linter.unusedVariables false
/-- A power by squaring, in the ring of n. -/
def mp (n : Nat) : Nat → Nat → Nat → Nat
  | 0, _, _ => 1 % n
  | f + 1, a, k => (if k % 2 = 1 then a else 1) * mp n f (a * a % n) (k / 2) % n
theorem mp_ok (n : Nat) : ∀ f a k, k < 2 ^ f → mp n f a k = a ^ k % n
  | 0, a, k, h => by
    have : k = 0 := by simp at h; exact h
    subst this
    rfl
  | f + 1, a, k, h => by
    have hk : k / 2 < 2 ^ f := by rw [Nat.pow_succ] at h; omega
    have e : mp n (f + 1) a k = (if k % 2 = 1 then a else 1) * mp n f (a * a % n) (k / 2) % n := rfl
    rw [e, mp_ok n f _ _ hk, ← Nat.pow_mod, Nat.mul_mod, Nat.mod_mod, ← Nat.mul_mod]
    have e2 : (a * a) ^ (k / 2) = a ^ (2 * (k / 2)) := by rw [Nat.pow_mul]; congr 1; exact (Nat.pow_two a).symm
    rw [e2]
    split
    · rename_i h1
      rw [Nat.mul_comm, ← Nat.pow_succ]; congr 2; omega
    · rename_i h1
      rw [Nat.one_mul]; congr 2; omega
/-- A small prime, by trial. -/
theorem small_prime (n : Nat) (hn : 2 ≤ n) (h : ∀ d, d < n → 2 ≤ d → n % d ≠ 0) : Pr n := by
  refine ⟨hn, fun d hd => ?_⟩
  have hle := Nat.le_of_dvd (by omega) hd
  have h0 : 0 < d := Nat.pos_of_dvd_of_pos hd (by omega)
  by_cases h1 : d = 1
  · exact .inl h1
  · by_cases h2 : d = n
    · exact .inr h2
    · exact (h d (by omega) (by omega) (Nat.mod_eq_zero_of_dvd hd)).elim
/-- The trial as a computation. -/
def trial (n : Nat) : Nat → Bool
  | 0 => true
  | d + 1 => (d < 2 || n % d != 0) && trial n d
theorem trial_ok (n : Nat) : ∀ m, trial n m = true → ∀ d, d < m → 2 ≤ d → n % d ≠ 0
  | 0, _, d, h, _ => by omega
  | m + 1, ht, d, h, h2 => by
    have ht : ((decide (m < 2) || n % m != 0) && trial n m) = true := ht
    rw [Bool.and_eq_true] at ht
    rcases Nat.lt_or_ge d m with h3 | h3
    · exact trial_ok n m ht.2 d h3 h2
    · have : d = m := by omega
      subst this
      have := ht.1
      rw [Bool.or_eq_true] at this
      rcases this with h4 | h4
      · have := of_decide_eq_true h4; omega
      · intro h5; rw [h5] at h4; exact absurd h4 (by decide)
theorem prime_of_trial (n : Nat) (hn : Nat.ble 2 n = true) (h : trial n n = true) : Pr n := small_prime n (Nat.le_of_ble_eq_true hn) (trial_ok n n h)
/-- A certificate, checked by computing. -/
def certOk (n a f : Nat) (fs : List Nat) : Bool :=
  Nat.ble 2 n && Nat.blt (n - 1) (2 ^ f) && Nat.beq (prod fs) (n - 1) && Nat.beq (mp n f a (n - 1)) 1 && fs.all (fun r => !(Nat.beq (mp n f a ((n - 1) / r)) 1))
theorem cert (n a f : Nat) (fs : List Nat) (h : certOk n a f fs = true) (hp : ∀ r ∈ fs, Pr r) : Pr n ∧ ∀ z, z % n ≠ 0 → z ^ (n - 1) % n = 1 := by
  unfold certOk at h
  simp only [Bool.and_eq_true] at h
  obtain ⟨⟨⟨⟨h1, h2⟩, h3⟩, h4⟩, h5⟩ := h
  have hn := Nat.le_of_ble_eq_true h1
  have hf : n - 1 < 2 ^ f := Nat.lt_of_lt_of_le (Nat.lt_succ_self _) (Nat.le_of_ble_eq_true h2)
  have h4 := Nat.eq_of_beq_eq_true h4
  rw [mp_ok n f a _ hf] at h4
  refine lucas hn h4 fs (Nat.eq_of_beq_eq_true h3) hp (fun r hr e => ?_)
  have h6 := List.all_eq_true.1 h5 r hr
  rw [mp_ok n f a _ (Nat.lt_of_le_of_lt (Nat.div_le_self _ _) hf), e] at h6
  exact absurd h6 (by decide)
theorem pr_2 : Pr 2 := prime_of_trial 2 (by decide +kernel) (by decide +kernel)
theorem pr_3 : Pr 3 := prime_of_trial 3 (by decide +kernel) (by decide +kernel)
theorem pr_5 : Pr 5 := prime_of_trial 5 (by decide +kernel) (by decide +kernel)
theorem pr_7 : Pr 7 := prime_of_trial 7 (by decide +kernel) (by decide +kernel)
theorem pr_13 : Pr 13 := prime_of_trial 13 (by decide +kernel) (by decide +kernel)
theorem pr_17 : Pr 17 := prime_of_trial 17 (by decide +kernel) (by decide +kernel)
theorem pr_19 : Pr 19 := prime_of_trial 19 (by decide +kernel) (by decide +kernel)
theorem pr_23 : Pr 23 := prime_of_trial 23 (by decide +kernel) (by decide +kernel)
theorem pr_29 : Pr 29 := prime_of_trial 29 (by decide +kernel) (by decide +kernel)
theorem pr_31 : Pr 31 := prime_of_trial 31 (by decide +kernel) (by decide +kernel)
theorem pr_41 : Pr 41 := prime_of_trial 41 (by decide +kernel) (by decide +kernel)
theorem pr_43 : Pr 43 := prime_of_trial 43 (by decide +kernel) (by decide +kernel)
theorem pr_47 : Pr 47 := prime_of_trial 47 (by decide +kernel) (by decide +kernel)
theorem pr_59 : Pr 59 := prime_of_trial 59 (by decide +kernel) (by decide +kernel)
theorem pr_83 : Pr 83 := prime_of_trial 83 (by decide +kernel) (by decide +kernel)
theorem pr_97 : Pr 97 := prime_of_trial 97 (by decide +kernel) (by decide +kernel)
theorem pr_103 : Pr 103 := prime_of_trial 103 (by decide +kernel) (by decide +kernel)
theorem pr_107 : Pr 107 := prime_of_trial 107 (by decide +kernel) (by decide +kernel)
theorem pr_127 : Pr 127 := prime_of_trial 127 (by decide +kernel) (by decide +kernel)
theorem pr_131 : Pr 131 := prime_of_trial 131 (by decide +kernel) (by decide +kernel)
theorem pr_173 : Pr 173 := prime_of_trial 173 (by decide +kernel) (by decide +kernel)
theorem pr_223 : Pr 223 := prime_of_trial 223 (by decide +kernel) (by decide +kernel)
theorem pr_353 : Pr 353 := prime_of_trial 353 (by decide +kernel) (by decide +kernel)
theorem pr_419 : Pr 419 := prime_of_trial 419 (by decide +kernel) (by decide +kernel)
theorem pr_479 : Pr 479 := prime_of_trial 479 (by decide +kernel) (by decide +kernel)
theorem pr_487 : Pr 487 := prime_of_trial 487 (by decide +kernel) (by decide +kernel)
theorem pr_991 : Pr 991 := prime_of_trial 991 (by decide +kernel) (by decide +kernel)
theorem cert_1723 : Pr 1723 ∧ ∀ z, z % 1723 ≠ 0 → z ^ (1723 - 1) % 1723 = 1 := cert 1723 3 11 [2, 3, 7, 41] (by decide +kernel) (by
  intro r hr
  simp only [List.mem_cons, List.not_mem_nil, or_false] at hr
  rcases hr with rfl | rfl | rfl | rfl
  · exact pr_2
  · exact pr_3
  · exact pr_7
  · exact pr_41)
theorem cert_2437 : Pr 2437 ∧ ∀ z, z % 2437 ≠ 0 → z ^ (2437 - 1) % 2437 = 1 := cert 2437 2 12 [2, 2, 3, 7, 29] (by decide +kernel) (by
  intro r hr
  simp only [List.mem_cons, List.not_mem_nil, or_false] at hr
  rcases hr with rfl | rfl | rfl | rfl | rfl
  · exact pr_2
  · exact pr_2
  · exact pr_3
  · exact pr_7
  · exact pr_29)
theorem cert_3727 : Pr 3727 ∧ ∀ z, z % 3727 ≠ 0 → z ^ (3727 - 1) % 3727 = 1 := cert 3727 3 12 [2, 3, 3, 3, 3, 23] (by decide +kernel) (by
  intro r hr
  simp only [List.mem_cons, List.not_mem_nil, or_false] at hr
  rcases hr with rfl | rfl | rfl | rfl | rfl | rfl
  · exact pr_2
  · exact pr_3
  · exact pr_3
  · exact pr_3
  · exact pr_3
  · exact pr_23)
theorem cert_4153 : Pr 4153 ∧ ∀ z, z % 4153 ≠ 0 → z ^ (4153 - 1) % 4153 = 1 := cert 4153 5 13 [2, 2, 2, 3, 173] (by decide +kernel) (by
  intro r hr
  simp only [List.mem_cons, List.not_mem_nil, or_false] at hr
  rcases hr with rfl | rfl | rfl | rfl | rfl
  · exact pr_2
  · exact pr_2
  · exact pr_2
  · exact pr_3
  · exact pr_173)
theorem cert_9463 : Pr 9463 ∧ ∀ z, z % 9463 ≠ 0 → z ^ (9463 - 1) % 9463 = 1 := cert 9463 3 14 [2, 3, 19, 83] (by decide +kernel) (by
  intro r hr
  simp only [List.mem_cons, List.not_mem_nil, or_false] at hr
  rcases hr with rfl | rfl | rfl | rfl
  · exact pr_2
  · exact pr_3
  · exact pr_19
  · exact pr_83)
theorem cert_32573 : Pr 32573 ∧ ∀ z, z % 32573 ≠ 0 → z ^ (32573 - 1) % 32573 = 1 := cert 32573 2 15 [2, 2, 17, 479] (by decide +kernel) (by
  intro r hr
  simp only [List.mem_cons, List.not_mem_nil, or_false] at hr
  rcases hr with rfl | rfl | rfl | rfl
  · exact pr_2
  · exact pr_2
  · exact pr_17
  · exact pr_479)
theorem cert_37853 : Pr 37853 ∧ ∀ z, z % 37853 ≠ 0 → z ^ (37853 - 1) % 37853 = 1 := cert 37853 2 16 [2, 2, 9463] (by decide +kernel) (by
  intro r hr
  simp only [List.mem_cons, List.not_mem_nil, or_false] at hr
  rcases hr with rfl | rfl | rfl
  · exact pr_2
  · exact pr_2
  · exact cert_9463.1)
theorem cert_57467 : Pr 57467 ∧ ∀ z, z % 57467 ≠ 0 → z ^ (57467 - 1) % 57467 = 1 := cert 57467 2 16 [2, 59, 487] (by decide +kernel) (by
  intro r hr
  simp only [List.mem_cons, List.not_mem_nil, or_false] at hr
  rcases hr with rfl | rfl | rfl
  · exact pr_2
  · exact pr_59
  · exact pr_487)
theorem cert_65147 : Pr 65147 ∧ ∀ z, z % 65147 ≠ 0 → z ^ (65147 - 1) % 65147 = 1 := cert 65147 2 16 [2, 32573] (by decide +kernel) (by
  intro r hr
  simp only [List.mem_cons, List.not_mem_nil, or_false] at hr
  rcases hr with rfl | rfl
  · exact pr_2
  · exact cert_32573.1)
theorem cert_75707 : Pr 75707 ∧ ∀ z, z % 75707 ≠ 0 → z ^ (75707 - 1) % 75707 = 1 := cert 75707 2 17 [2, 37853] (by decide +kernel) (by
  intro r hr
  simp only [List.mem_cons, List.not_mem_nil, or_false] at hr
  rcases hr with rfl | rfl
  · exact pr_2
  · exact cert_37853.1)
theorem cert_132049 : Pr 132049 ∧ ∀ z, z % 132049 ≠ 0 → z ^ (132049 - 1) % 132049 = 1 := cert 132049 26 18 [2, 2, 2, 2, 3, 3, 7, 131] (by decide +kernel) (by
  intro r hr
  simp only [List.mem_cons, List.not_mem_nil, or_false] at hr
  rcases hr with rfl | rfl | rfl | rfl | rfl | rfl | rfl | rfl
  · exact pr_2
  · exact pr_2
  · exact pr_2
  · exact pr_2
  · exact pr_3
  · exact pr_3
  · exact pr_7
  · exact pr_131)
theorem cert_430751 : Pr 430751 ∧ ∀ z, z % 430751 ≠ 0 → z ^ (430751 - 1) % 430751 = 1 := cert 430751 17 19 [2, 5, 5, 5, 1723] (by decide +kernel) (by
  intro r hr
  simp only [List.mem_cons, List.not_mem_nil, or_false] at hr
  rcases hr with rfl | rfl | rfl | rfl | rfl
  · exact pr_2
  · exact pr_5
  · exact pr_5
  · exact pr_5
  · exact cert_1723.1)
theorem cert_569003 : Pr 569003 ∧ ∀ z, z % 569003 ≠ 0 → z ^ (569003 - 1) % 569003 = 1 := cert 569003 2 20 [2, 7, 97, 419] (by decide +kernel) (by
  intro r hr
  simp only [List.mem_cons, List.not_mem_nil, or_false] at hr
  rcases hr with rfl | rfl | rfl | rfl
  · exact pr_2
  · exact pr_7
  · exact pr_97
  · exact pr_419)
theorem cert_1923133 : Pr 1923133 ∧ ∀ z, z % 1923133 ≠ 0 → z ^ (1923133 - 1) % 1923133 = 1 := cert 1923133 2 21 [2, 2, 3, 43, 3727] (by decide +kernel) (by
  intro r hr
  simp only [List.mem_cons, List.not_mem_nil, or_false] at hr
  rcases hr with rfl | rfl | rfl | rfl | rfl
  · exact pr_2
  · exact pr_2
  · exact pr_3
  · exact pr_43
  · exact cert_3727.1)
theorem cert_8574133 : Pr 8574133 ∧ ∀ z, z % 8574133 ≠ 0 → z ^ (8574133 - 1) % 8574133 = 1 := cert 8574133 2 24 [2, 2, 3, 7, 103, 991] (by decide +kernel) (by
  intro r hr
  simp only [List.mem_cons, List.not_mem_nil, or_false] at hr
  rcases hr with rfl | rfl | rfl | rfl | rfl | rfl
  · exact pr_2
  · exact pr_2
  · exact pr_3
  · exact pr_7
  · exact pr_103
  · exact pr_991)
theorem cert_2773320623 : Pr 2773320623 ∧ ∀ z, z % 2773320623 ≠ 0 → z ^ (2773320623 - 1) % 2773320623 = 1 := cert 2773320623 5 32 [2, 2437, 569003] (by decide +kernel) (by
  intro r hr
  simp only [List.mem_cons, List.not_mem_nil, or_false] at hr
  rcases hr with rfl | rfl | rfl
  · exact pr_2
  · exact cert_2437.1
  · exact cert_569003.1)
theorem cert_72106336199 : Pr 72106336199 ∧ ∀ z, z % 72106336199 ≠ 0 → z ^ (72106336199 - 1) % 72106336199 = 1 := cert 72106336199 7 37 [2, 13, 2773320623] (by decide +kernel) (by
  intro r hr
  simp only [List.mem_cons, List.not_mem_nil, or_false] at hr
  rcases hr with rfl | rfl | rfl
  · exact pr_2
  · exact pr_13
  · exact cert_2773320623.1)
theorem cert_1919519569386763 : Pr 1919519569386763 ∧ ∀ z, z % 1919519569386763 ≠ 0 → z ^ (1919519569386763 - 1) % 1919519569386763 = 1 := cert 1919519569386763 2 51 [2, 3, 7, 19, 47, 47, 127, 8574133] (by decide +kernel) (by
  intro r hr
  simp only [List.mem_cons, List.not_mem_nil, or_false] at hr
  rcases hr with rfl | rfl | rfl | rfl | rfl | rfl | rfl | rfl
  · exact pr_2
  · exact pr_3
  · exact pr_7
  · exact pr_19
  · exact pr_47
  · exact pr_47
  · exact pr_127
  · exact cert_8574133.1)
theorem cert_31757755568855353 : Pr 31757755568855353 ∧ ∀ z, z % 31757755568855353 ≠ 0 → z ^ (31757755568855353 - 1) % 31757755568855353 = 1 := cert 31757755568855353 10 55 [2, 2, 2, 3, 31, 107, 223, 4153, 430751] (by decide +kernel) (by
  intro r hr
  simp only [List.mem_cons, List.not_mem_nil, or_false] at hr
  rcases hr with rfl | rfl | rfl | rfl | rfl | rfl | rfl | rfl | rfl
  · exact pr_2
  · exact pr_2
  · exact pr_2
  · exact pr_3
  · exact pr_31
  · exact pr_107
  · exact pr_223
  · exact cert_4153.1
  · exact cert_430751.1)
theorem cert_75445702479781427272750846543864801 : Pr 75445702479781427272750846543864801 ∧ ∀ z, z % 75445702479781427272750846543864801 ≠ 0 → z ^ (75445702479781427272750846543864801 - 1) % 75445702479781427272750846543864801 = 1 := cert 75445702479781427272750846543864801 7 116 [2, 2, 2, 2, 2, 3, 3, 5, 5, 75707, 72106336199, 1919519569386763] (by decide +kernel) (by
  intro r hr
  simp only [List.mem_cons, List.not_mem_nil, or_false] at hr
  rcases hr with rfl | rfl | rfl | rfl | rfl | rfl | rfl | rfl | rfl | rfl | rfl | rfl
  · exact pr_2
  · exact pr_2
  · exact pr_2
  · exact pr_2
  · exact pr_2
  · exact pr_3
  · exact pr_3
  · exact pr_5
  · exact pr_5
  · exact cert_75707.1
  · exact cert_72106336199.1
  · exact cert_1919519569386763.1)
theorem cert_74058212732561358302231226437062788676166966415465897661863160754340907 : Pr 74058212732561358302231226437062788676166966415465897661863160754340907 ∧ ∀ z, z % 74058212732561358302231226437062788676166966415465897661863160754340907 ≠ 0 → z ^ (74058212732561358302231226437062788676166966415465897661863160754340907 - 1) % 74058212732561358302231226437062788676166966415465897661863160754340907 = 1 := cert 74058212732561358302231226437062788676166966415465897661863160754340907 2 236 [2, 3, 353, 57467, 132049, 1923133, 31757755568855353, 75445702479781427272750846543864801] (by decide +kernel) (by
  intro r hr
  simp only [List.mem_cons, List.not_mem_nil, or_false] at hr
  rcases hr with rfl | rfl | rfl | rfl | rfl | rfl | rfl | rfl
  · exact pr_2
  · exact pr_3
  · exact pr_353
  · exact cert_57467.1
  · exact cert_132049.1
  · exact cert_1923133.1
  · exact cert_31757755568855353.1
  · exact cert_75445702479781427272750846543864801.1)
theorem cert_57896044618658097711785492504343953926634992332820282019728792003956564819949 : Pr 57896044618658097711785492504343953926634992332820282019728792003956564819949 ∧ ∀ z, z % 57896044618658097711785492504343953926634992332820282019728792003956564819949 ≠ 0 → z ^ (57896044618658097711785492504343953926634992332820282019728792003956564819949 - 1) % 57896044618658097711785492504343953926634992332820282019728792003956564819949 = 1 := cert 57896044618658097711785492504343953926634992332820282019728792003956564819949 2 255 [2, 2, 3, 65147, 74058212732561358302231226437062788676166966415465897661863160754340907] (by decide +kernel) (by
  intro r hr
  simp only [List.mem_cons, List.not_mem_nil, or_false] at hr
  rcases hr with rfl | rfl | rfl | rfl | rfl
  · exact pr_2
  · exact pr_2
  · exact pr_3
  · exact cert_65147.1
  · exact cert_74058212732561358302231226437062788676166966415465897661863160754340907.1)
/-- The number of the curve's field. -/
def pF : Nat := 2 ^ 255 - 19
theorem pF_eq : pF = 57896044618658097711785492504343953926634992332820282019728792003956564819949 := by decide +kernel
theorem pF_prime : Pr pF := by rw [pF_eq]; exact cert_57896044618658097711785492504343953926634992332820282019728792003956564819949.1
theorem pF_fermat : ∀ z, z % pF ≠ 0 → z ^ (pF - 1) % pF = 1 := by rw [pF_eq]; exact cert_57896044618658097711785492504343953926634992332820282019728792003956564819949.2
end Go.Proofs.Ytikicljlgfgfbaa.AG
namespace Go.Proofs.Ytikicljlgfgfbaa.AG
set_option linter.unusedVariables false
instance : NeZero pF := ⟨by rw [pF_eq]; decide⟩
abbrev F := Fin pF
theorem pF_two : 2 < pF := by rw [pF_eq]; decide
theorem F.zero_val : (0 : F).val = 0 := rfl
theorem F.one_val : (1 : F).val = 1 := by show 1 % pF = 1; exact Nat.mod_eq_of_lt (Nat.lt_trans (by decide) pF_two)
theorem F.mul_eq_zero {a b : F} (h : a * b = 0) : a = 0 ∨ b = 0 := by
  have h1 : a.val * b.val % pF = 0 := by
    have := congrArg Fin.val h
    rw [Fin.val_mul] at this
    exact this
  rcases pF_prime.gcd a.val with h2 | h2
  · right
    have h3 : pF ∣ b.val := Nat.Coprime.dvd_of_dvd_mul_left (Nat.Coprime.symm h2) (Nat.dvd_of_mod_eq_zero h1)
    exact Fin.ext (Nat.eq_zero_of_dvd_of_lt h3 b.isLt)
  · left
    exact Fin.ext (Nat.eq_zero_of_dvd_of_lt h2 a.isLt)
theorem F.mul_ne_zero {a b : F} (ha : a ≠ 0) (hb : b ≠ 0) : a * b ≠ 0 := fun h => (F.mul_eq_zero h).elim ha hb
/-- A power. -/
def pw (a : F) : Nat → F
  | 0 => 1
  | k + 1 => pw a k * a
theorem pw_val (a : F) : ∀ k, (pw a k).val = a.val ^ k % pF
  | 0 => by show (1 : F).val = 1 % pF; rw [F.one_val]; exact (Nat.mod_eq_of_lt (Nat.lt_trans (by decide) pF_two)).symm
  | k + 1 => by
    show (pw a k * a).val = a.val ^ (k + 1) % pF
    rw [Fin.val_mul, pw_val a k, Nat.pow_succ, Nat.mod_mul_mod]
theorem pw_add (a : F) (m : Nat) : ∀ k, pw a (m + k) = pw a m * pw a k
  | 0 => by show pw a m = pw a m * 1; grind
  | k + 1 => by
    show pw a (m + k) * a = pw a m * (pw a k * a)
    rw [pw_add a m k]; grind
theorem pw_mul (a : F) (m : Nat) : ∀ k, pw a (m * k) = pw (pw a m) k
  | 0 => rfl
  | k + 1 => by
    rw [Nat.mul_succ, pw_add, pw_mul a m k]; rfl
theorem F.fermat (a : F) (h : a ≠ 0) : pw a (pF - 1) = 1 := by
  apply Fin.ext
  rw [pw_val, F.one_val]
  refine pF_fermat a.val ?_
  rw [Nat.mod_eq_of_lt a.isLt]
  exact fun e => h (Fin.ext e)
/-- The inverse as the program computes it. -/
def inv (a : F) : F := pw a (pF - 2)
theorem F.mul_inv (a : F) (h : a ≠ 0) : a * inv a = 1 := by
  have e := F.fermat a h
  have e2 : pF - 1 = pF - 2 + 1 := by have := pF_two; omega
  rw [e2] at e
  unfold inv
  generalize pF - 2 = k at e
  have e3 : pw a k * a = 1 := e
  grind
theorem inv_zero : inv 0 = 0 := by
  unfold inv
  obtain ⟨k, e2⟩ : ∃ k, pF - 2 = k + 1 := ⟨pF - 3, by have := pF_two; omega⟩
  rw [e2]
  show pw 0 k * 0 = 0
  grind
/-- The curve's number. -/
def dN : Nat := 20800338683988658368647408995589388737092878452977063003340006470870624536394
def d : F := Fin.ofNat pF dN
theorem d_val : d.val = dN := by
  show dN % pF = dN
  rw [pF_eq]; decide +kernel
theorem half_val : dN ^ ((pF - 1) / 2) % pF = pF - 1 := by
  refine (mp_ok _ 255 _ _ ?_).symm.trans ?_
  · rw [pF_eq]; decide +kernel
  · rw [pF_eq]; decide +kernel
theorem d_not_square (s : F) : s * s ≠ d := by
  intro h
  have hs : s ≠ 0 := by
    intro e
    have h0 : (0 : F) = d := by grind
    have := congrArg Fin.val h0
    rw [d_val] at this
    exact absurd this (by decide +kernel)
  have e1 := F.fermat s hs
  have e2 : pF - 1 = 2 * ((pF - 1) / 2) := by rw [pF_eq]
  rw [e2, pw_mul] at e1
  have e3 : pw s 2 = d := by show (1 * s) * s = d; rw [← h]; grind
  rw [e3] at e1
  have e4 := congrArg Fin.val e1
  rw [pw_val, d_val, half_val, F.one_val] at e4
  have := pF_two
  omega
/-- No square is d times a square. -/
theorem d_squares (s t : F) (h : s * s = d * (t * t)) : t = 0 := by
  by_cases ht : t = 0
  · exact ht
  · exfalso
    refine d_not_square (s * inv t) ?_
    have := F.mul_inv t ht
    grind
theorem two_ne : (2 : F) ≠ 0 := by
  intro h
  have := congrArg Fin.val h
  have e : (2 : F).val = 2 % pF := rfl
  rw [e, Nat.mod_eq_of_lt pF_two] at this
  exact absurd this (by decide)
theorem d_num : d * 121666 = 121665 := by
  apply Fin.ext
  rw [Fin.val_mul, d_val]
  show dN * (121666 % pF) % pF = 121665 % pF
  rw [pF_eq]; decide +kernel
theorem n121666_ne : (121666 : F) ≠ 0 := by
  intro h
  have h : 121666 % pF = 0 := congrArg Fin.val h
  rw [pF_eq] at h
  exact absurd h (by decide +kernel)
/-- The base point. -/
def gx : F := Fin.ofNat pF 9771384041963202563870679428059935816164187996444183106833894008023910952347
def gy : F := Fin.ofNat pF 46316835694926478169428394003475163141307993866256225615783033603165251855960
theorem g_on : gx * gx + gy * gy = 1 + d * (gx * gx) * (gy * gy) := by
  apply Fin.ext
  simp only [Fin.val_mul, Fin.val_add, d_val, F.one_val]
  show ((9771384041963202563870679428059935816164187996444183106833894008023910952347 % pF) * (9771384041963202563870679428059935816164187996444183106833894008023910952347 % pF) % pF + (46316835694926478169428394003475163141307993866256225615783033603165251855960 % pF) * (46316835694926478169428394003475163141307993866256225615783033603165251855960 % pF) % pF) % pF = (1 + dN * ((9771384041963202563870679428059935816164187996444183106833894008023910952347 % pF) * (9771384041963202563870679428059935816164187996444183106833894008023910952347 % pF) % pF) % pF * ((46316835694926478169428394003475163141307993866256225615783033603165251855960 % pF) * (46316835694926478169428394003475163141307993866256225615783033603165251855960 % pF) % pF) % pF) % pF
  rw [pF_eq]; decide +kernel
theorem g_nine : 1 + gy = 9 * (1 - gy) := by
  have e : 10 * gy = 8 := by
    apply Fin.ext
    rw [Fin.val_mul]
    show (10 % pF) * (46316835694926478169428394003475163141307993866256225615783033603165251855960 % pF) % pF = 8 % pF
    rw [pF_eq]
  grind
end Go.Proofs.Ytikicljlgfgfbaa.AG
namespace Go.Proofs.Ytikicljlgfgfbaa.AG
set_option linter.unusedVariables false
theorem F.cancel {c x y : F} (hc : c ≠ 0) (h : c * x = c * y) : x = y := by
  have := F.mul_inv c hc
  grind
def On (x y : F) : Prop := x * x + y * y = 1 + d * (x * x) * (y * y)
/-- No denominator of the sum is zero. -/
theorem complete {x1 y1 x2 y2 : F} (h1 : On x1 y1) (h2 : On x2 y2) (e : F) (he : e * e = 1) : d * (x1 * x2 * y1 * y2) ≠ e := by
  intro hk
  unfold On at h1 h2
  have q1 : (x1 + e * y1) * (x1 + e * y1) = d * ((x1 * y1 * (x2 + y2)) * (x1 * y1 * (x2 + y2))) := by grind
  have q2 : (x1 - e * y1) * (x1 - e * y1) = d * ((x1 * y1 * (x2 - y2)) * (x1 * y1 * (x2 - y2))) := by grind
  have r1 := d_squares _ _ q1
  have r2 := d_squares _ _ q2
  have e0 : e ≠ 0 := fun h => by
    have h3 : (0 : F) = 1 := by grind
    have := congrArg Fin.val h3
    rw [F.one_val] at this
    exact absurd this (by decide)
  have hxy : x1 * y1 ≠ 0 := fun h => e0 (by grind)
  have s1 : x2 + y2 = 0 := (F.mul_eq_zero r1).resolve_left hxy
  have s2 : x2 - y2 = 0 := (F.mul_eq_zero r2).resolve_left hxy
  have s3 : 2 * x2 = 0 := by grind
  have s4 : x2 = 0 := (F.mul_eq_zero s3).resolve_left two_ne
  exact e0 (by grind)
structure Pt where
  x : F
  y : F
  on : On x y
theorem Pt.ext' {P Q : Pt} (hx : P.x = Q.x) (hy : P.y = Q.y) : P = Q := by
  cases P; cases Q
  simp only at hx hy
  subst hx; subst hy; rfl
def dk (P Q : Pt) : F := d * (P.x * Q.x * P.y * Q.y)
theorem denA (P Q : Pt) : 1 + dk P Q ≠ 0 := fun h => complete P.on Q.on (-1) (by grind) (by unfold dk at h; grind)
theorem denB (P Q : Pt) : 1 - dk P Q ≠ 0 := fun h => complete P.on Q.on 1 (by grind) (by unfold dk at h; grind)
def sx (P Q : Pt) : F := (P.x * Q.y + P.y * Q.x) * inv (1 + dk P Q)
def sy (P Q : Pt) : F := (P.y * Q.y - P.x * Q.x) * inv (1 - dk P Q)
theorem sx_eq (P Q : Pt) : sx P Q * (1 + dk P Q) = P.x * Q.y + P.y * Q.x := by
  have := F.mul_inv _ (denA P Q)
  unfold sx
  generalize inv (1 + dk P Q) = i at *
  grind
theorem sy_eq (P Q : Pt) : sy P Q * (1 - dk P Q) = P.y * Q.y - P.x * Q.x := by
  have := F.mul_inv _ (denB P Q)
  unfold sy
  generalize inv (1 - dk P Q) = i at *
  grind
theorem close_num (x1 y1 x2 y2 d : F) (h1 : x1 * x1 + y1 * y1 = 1 + d * (x1 * x1) * (y1 * y1)) (h2 : x2 * x2 + y2 * y2 = 1 + d * (x2 * x2) * (y2 * y2)) (k a b A B : F)
    (hk : k = d * (x1 * x2 * y1 * y2)) (ha : a = x1 * y2 + y1 * x2) (hb : b = y1 * y2 - x1 * x2) (hA : A = 1 + k) (hB : B = 1 - k) :
    a * a * (B * B) + b * b * (A * A) = A * A * (B * B) + d * (a * a) * (b * b) := by
  subst hk ha hb hA hB
  grind
theorem close (P Q : Pt) : On (sx P Q) (sy P Q) := by
  have h := close_num P.x P.y Q.x Q.y d P.on Q.on _ _ _ _ _ rfl rfl rfl rfl rfl
  have e1 := sx_eq P Q
  have e2 := sy_eq P Q
  have dA := denA P Q
  have dB := denB P Q
  unfold dk at e1 e2 dA dB
  unfold On
  rw [← e1, ← e2] at h
  generalize 1 + d * (P.x * Q.x * P.y * Q.y) = A at *
  generalize 1 - d * (P.x * Q.x * P.y * Q.y) = B at *
  refine F.cancel (c := A * A * (B * B)) (F.mul_ne_zero (F.mul_ne_zero dA dA) (F.mul_ne_zero dB dB)) ?_
  grind
def add (P Q : Pt) : Pt := ⟨sx P Q, sy P Q, close P Q⟩
theorem add_comm (P Q : Pt) : add P Q = add Q P := by
  apply Pt.ext'
  · show sx P Q = sx Q P
    unfold sx
    rw [show dk P Q = dk Q P by unfold dk; grind, show P.x * Q.y + P.y * Q.x = Q.x * P.y + Q.y * P.x by grind]
  · show sy P Q = sy Q P
    unfold sy
    rw [show dk P Q = dk Q P by unfold dk; grind, show P.y * Q.y - P.x * Q.x = Q.y * P.y - Q.x * P.x by grind]
def O : Pt := ⟨0, 1, by unfold On; grind⟩
theorem add_O (P : Pt) : add P O = P := by
  have h1 : sx P O * (1 + dk P O) = P.x * 1 + P.y * 0 := sx_eq P O
  have h2 : sy P O * (1 - dk P O) = P.y * 1 - P.x * 0 := sy_eq P O
  have h3 : dk P O = 0 := by show d * (P.x * 0 * P.y * 1) = 0; grind
  rw [h3] at h1 h2
  apply Pt.ext'
  · show sx P O = P.x
    grind
  · show sy P O = P.y
    grind
theorem assoc_x (x1 y1 x2 y2 x3 y3 d : F) (e1 : x1 * x1 + y1 * y1 = 1 + d * (x1 * x1) * (y1 * y1)) (e2 : x2 * x2 + y2 * y2 = 1 + d * (x2 * x2) * (y2 * y2)) (e3 : x3 * x3 + y3 * y3 = 1 + d * (x3 * x3) * (y3 * y3))
    (k m a b c e : F) (hk : k = d * (x1 * x2 * y1 * y2)) (hm : m = d * (x2 * x3 * y2 * y3)) (ha : a = x1 * y2 + y1 * x2) (hb : b = y1 * y2 - x1 * x2) (hc : c = x2 * y3 + y2 * x3) (he : e = y2 * y3 - x2 * x3) :
    (a * (1 - k) * y3 + b * (1 + k) * x3) * ((1 + m) * (1 - m) + d * x1 * y1 * c * e) = (x1 * e * (1 + m) + y1 * c * (1 - m)) * ((1 + k) * (1 - k) + d * a * b * x3 * y3) := by
  subst hk hm ha hb hc he
  grind
theorem assoc_y (x1 y1 x2 y2 x3 y3 d : F) (e1 : x1 * x1 + y1 * y1 = 1 + d * (x1 * x1) * (y1 * y1)) (e2 : x2 * x2 + y2 * y2 = 1 + d * (x2 * x2) * (y2 * y2)) (e3 : x3 * x3 + y3 * y3 = 1 + d * (x3 * x3) * (y3 * y3))
    (k m a b c e : F) (hk : k = d * (x1 * x2 * y1 * y2)) (hm : m = d * (x2 * x3 * y2 * y3)) (ha : a = x1 * y2 + y1 * x2) (hb : b = y1 * y2 - x1 * x2) (hc : c = x2 * y3 + y2 * x3) (he : e = y2 * y3 - x2 * x3) :
    (b * (1 + k) * y3 - a * (1 - k) * x3) * ((1 + m) * (1 - m) - d * x1 * y1 * c * e) = (y1 * e * (1 + m) - x1 * c * (1 - m)) * ((1 + k) * (1 - k) - d * a * b * x3 * y3) := by
  subst hk hm ha hb hc he
  grind
theorem add_assoc (P Q R : Pt) : add (add P Q) R = add P (add Q R) := by
  have a1 := sx_eq P Q
  have a2 := sy_eq P Q
  have b1 := sx_eq Q R
  have b2 := sy_eq Q R
  have c1 := sx_eq (add P Q) R
  have c2 := sy_eq (add P Q) R
  have f1 := sx_eq P (add Q R)
  have f2 := sy_eq P (add Q R)
  have n1 := denA P Q
  have n2 := denB P Q
  have n3 := denA Q R
  have n4 := denB Q R
  have n5 := denA (add P Q) R
  have n6 := denB (add P Q) R
  have n7 := denA P (add Q R)
  have n8 := denB P (add Q R)
  have hx := assoc_x P.x P.y Q.x Q.y R.x R.y d P.on Q.on R.on _ _ _ _ _ _ rfl rfl rfl rfl rfl rfl
  have hy := assoc_y P.x P.y Q.x Q.y R.x R.y d P.on Q.on R.on _ _ _ _ _ _ rfl rfl rfl rfl rfl rfl
  have k1 : dk P Q = d * (P.x * Q.x * P.y * Q.y) := rfl
  have k2 : dk Q R = d * (Q.x * R.x * Q.y * R.y) := rfl
  have k3 : dk (add P Q) R = d * (sx P Q * R.x * sy P Q * R.y) := rfl
  have k4 : dk P (add Q R) = d * (P.x * sx Q R * P.y * sy Q R) := rfl
  rw [← k1, ← k2, ← a1, ← a2, ← b1, ← b2] at hx hy
  have c1 : sx (add P Q) R * (1 + dk (add P Q) R) = sx P Q * R.y + sy P Q * R.x := c1
  have c2 : sy (add P Q) R * (1 - dk (add P Q) R) = sy P Q * R.y - sx P Q * R.x := c2
  have f1 : sx P (add Q R) * (1 + dk P (add Q R)) = P.x * sy Q R + P.y * sx Q R := f1
  have f2 : sy P (add Q R) * (1 - dk P (add Q R)) = P.y * sy Q R - P.x * sx Q R := f2
  apply Pt.ext'
  · show sx (add P Q) R = sx P (add Q R)
    refine F.cancel (c := (1 + dk P Q) * (1 - dk P Q) * ((1 + dk Q R) * (1 - dk Q R)) * ((1 + dk (add P Q) R) * (1 + dk P (add Q R)))) (F.mul_ne_zero (F.mul_ne_zero (F.mul_ne_zero n1 n2) (F.mul_ne_zero n3 n4)) (F.mul_ne_zero n5 n7)) ?_
    clear hy c2 f2 a1 a2 b1 b2 n1 n2 n3 n4 n5 n6 n7 n8 k1 k2
    generalize sx (add P Q) R = T at *
    generalize sx P (add Q R) = V at *
    generalize sx P Q = s1 at *
    generalize sy P Q = s2 at *
    generalize sx Q R = u1 at *
    generalize sy Q R = u2 at *
    generalize dk P Q = k at *
    generalize dk Q R = m at *
    generalize dk (add P Q) R = k3' at *
    generalize dk P (add Q R) = k4' at *
    generalize P.x = x1 at *; generalize P.y = y1 at *; generalize Q.x = x2 at *; generalize Q.y = y2 at *; generalize R.x = x3 at *; generalize R.y = y3 at *
    generalize d = D at *
    have l1 : (1 + k) * (1 - k) * ((1 + m) * (1 - m)) * ((1 + k3') * (1 + k4')) * T = (1 + k) * (1 - k) * ((1 + m) * (1 - m)) * ((1 + k4') * (s1 * y3 + s2 * x3)) := by rw [← c1]; grind
    have l2 : (1 + k) * (1 - k) * ((1 + m) * (1 - m)) * ((1 + k3') * (1 + k4')) * V = (1 + k) * (1 - k) * ((1 + m) * (1 - m)) * ((1 + k3') * (x1 * u2 + y1 * u1)) := by rw [← f1]; grind
    rw [l1, l2, k3, k4]
    clear l1 l2 c1 f1 k3 k4
    grind
  · show sy (add P Q) R = sy P (add Q R)
    refine F.cancel (c := (1 + dk P Q) * (1 - dk P Q) * ((1 + dk Q R) * (1 - dk Q R)) * ((1 - dk (add P Q) R) * (1 - dk P (add Q R)))) (F.mul_ne_zero (F.mul_ne_zero (F.mul_ne_zero n1 n2) (F.mul_ne_zero n3 n4)) (F.mul_ne_zero n6 n8)) ?_
    clear hx c1 f1 a1 a2 b1 b2 n1 n2 n3 n4 n5 n6 n7 n8 k1 k2
    generalize sy (add P Q) R = T at *
    generalize sy P (add Q R) = V at *
    generalize sx P Q = s1 at *
    generalize sy P Q = s2 at *
    generalize sx Q R = u1 at *
    generalize sy Q R = u2 at *
    generalize dk P Q = k at *
    generalize dk Q R = m at *
    generalize dk (add P Q) R = k3' at *
    generalize dk P (add Q R) = k4' at *
    generalize P.x = x1 at *; generalize P.y = y1 at *; generalize Q.x = x2 at *; generalize Q.y = y2 at *; generalize R.x = x3 at *; generalize R.y = y3 at *
    generalize d = D at *
    have l1 : (1 + k) * (1 - k) * ((1 + m) * (1 - m)) * ((1 - k3') * (1 - k4')) * T = (1 + k) * (1 - k) * ((1 + m) * (1 - m)) * ((1 - k4') * (s2 * y3 - s1 * x3)) := by rw [← c2]; grind
    have l2 : (1 + k) * (1 - k) * ((1 + m) * (1 - m)) * ((1 - k3') * (1 - k4')) * V = (1 + k) * (1 - k) * ((1 + m) * (1 - m)) * ((1 - k3') * (y1 * u2 - x1 * u1)) := by rw [← f2]; grind
    rw [l1, l2, k3, k4]
    clear l1 l2 c2 f2 k3 k4
    grind
/-- Multiples. -/
def mul : Nat → Pt → Pt
  | 0, _ => O
  | n + 1, P => add (mul n P) P
theorem O_add (P : Pt) : add O P = P := by rw [add_comm, add_O]
theorem mul_add (m : Nat) (P : Pt) : ∀ n, mul (m + n) P = add (mul m P) (mul n P)
  | 0 => (add_O _).symm
  | n + 1 => by
    show add (mul (m + n) P) P = add (mul m P) (add (mul n P) P)
    rw [mul_add m P n, add_assoc]
theorem mul_mul (m : Nat) (P : Pt) : ∀ n, mul (n * m) P = mul n (mul m P)
  | 0 => by rw [Nat.zero_mul]; rfl
  | n + 1 => by
    rw [Nat.succ_mul, mul_add, mul_mul m P n]; rfl
theorem mul_swap (m n : Nat) (P : Pt) : mul m (mul n P) = mul n (mul m P) := by rw [← mul_mul, ← mul_mul, Nat.mul_comm]
end Go.Proofs.Ytikicljlgfgfbaa.AG
namespace Go.Proofs.Ytikicljlgfgfbaa.AG
set_option linter.unusedVariables false
theorem one_ne : (1 : F) ≠ 0 := fun h => by
  have := congrArg Fin.val h
  rw [F.one_val] at this
  exact absurd this (by decide)
def eX (x z : F) : F := (x + z) * (x + z) * ((x - z) * (x - z))
def eE (x z : F) : F := (x + z) * (x + z) - (x - z) * (x - z)
def eZ (x z : F) : F := eE x z * ((x + z) * (x + z) + 121665 * eE x z)
def tX (x z x' z' : F) : F := ((x' - z') * (x + z) + (x' + z') * (x - z)) * ((x' - z') * (x + z) + (x' + z') * (x - z))
def tZ (x z x' z' u : F) : F := u * (((x' - z') * (x + z) - (x' + z') * (x - z)) * ((x' - z') * (x + z) - (x' + z') * (x - z)))
/-- A ratio stands for a point. -/
def St (X Z : F) (P : Pt) : Prop := ∃ l : F, l ≠ 0 ∧ X = l * (1 + P.y) ∧ Z = l * (1 - P.y)
theorem line_ne (y : F) : 121666 - 121665 * (y * y) ≠ 0 := by
  intro h
  have e1 : 121666 * (1 - d * (y * y)) = 0 := by have := d_num; grobner
  have e2 := (F.mul_eq_zero e1).resolve_left n121666_ne
  have e3 : (1 : F) * 1 = d * (y * y) := by grobner
  have e4 := d_squares 1 y e3
  exact one_ne (by grobner)
theorem dbl_num (x y d k y' l c : F) (hd : d * 121666 = 121665) (h : x * x + y * y = 1 + d * (x * x) * (y * y)) (hk : k = d * (x * x * y * y)) (hy : y' * (1 - k) = y * y - x * x) (hc : c = 121666 - 121665 * (y * y)) :
    eX (l * (1 + y)) (l * (1 - y)) = 2 * (2 * 2) * (l * l * (l * l)) * (c * (1 - k)) * (1 + y') ∧ eZ (l * (1 + y)) (l * (1 - y)) = 2 * (2 * 2) * (l * l * (l * l)) * (c * (1 - k)) * (1 - y') := by
  have e0 : c * (1 - x * x) = y * y := by clear hk hy; grobner
  have ek : 1 - k = 2 - x * x - y * y := by clear hy hc hd e0; grobner
  have e1 : (1 - k) * (1 + y') = 2 * (1 - x * x) := by
    rw [show (1 - k) * (1 + y') = (1 - k) + y' * (1 - k) by clear hk hy hc hd e0 ek h; grobner, hy, ek]; clear hk hy hc hd e0 ek h; grobner
  have e2 : (1 - k) * (1 - y') = 2 * (1 - y * y) := by
    rw [show (1 - k) * (1 - y') = (1 - k) - y' * (1 - k) by clear hk hy hc hd e0 ek h; grobner, hy, ek]; clear hk hy hc hd e0 ek h; grobner
  have r1 : 2 * (2 * 2) * (l * l * (l * l)) * (c * (1 - k)) * (1 + y') = 2 * (2 * (2 * 2)) * (l * l * (l * l)) * (c * (1 - x * x)) := by
    rw [show 2 * (2 * 2) * (l * l * (l * l)) * (c * (1 - k)) * (1 + y') = 2 * (2 * 2) * (l * l * (l * l)) * c * ((1 - k) * (1 + y')) by grobner, e1]; grobner
  have r2 : 2 * (2 * 2) * (l * l * (l * l)) * (c * (1 - k)) * (1 - y') = 2 * (2 * (2 * 2)) * (l * l * (l * l)) * (c * (1 - y * y)) := by
    rw [show 2 * (2 * 2) * (l * l * (l * l)) * (c * (1 - k)) * (1 - y') = 2 * (2 * 2) * (l * l * (l * l)) * c * ((1 - k) * (1 - y')) by grobner, e2]; grobner
  rw [r1, r2, e0]
  unfold eX eZ eE
  subst hc
  clear e0 e1 e2 r1 r2 hk hy h hd ek
  constructor <;> grobner
theorem St.dbl {X Z : F} {P : Pt} (h : St X Z P) : St (eX X Z) (eZ X Z) (add P P) := by
  obtain ⟨l, hl, hX, hZ⟩ := h
  have hy : sy P P * (1 - dk P P) = P.y * P.y - P.x * P.x := sy_eq P P
  obtain ⟨r1, r2⟩ := dbl_num P.x P.y d (dk P P) (sy P P) l _ d_num P.on rfl hy rfl
  refine ⟨2 * (2 * 2) * (l * l * (l * l)) * ((121666 - 121665 * (P.y * P.y)) * (1 - dk P P)), ?_, by rw [hX, hZ]; exact r1, by rw [hX, hZ]; exact r2⟩
  have h8 : 2 * (2 * 2) ≠ (0 : F) := by
    exact F.mul_ne_zero two_ne (F.mul_ne_zero two_ne two_ne)
  exact F.mul_ne_zero (F.mul_ne_zero h8 (F.mul_ne_zero (F.mul_ne_zero hl hl) (F.mul_ne_zero hl hl))) (F.mul_ne_zero (line_ne _) (denB P P))
/-- The other point with the same y. -/
def neg (P : Pt) : Pt := ⟨-P.x, P.y, by have := P.on; unfold On at *; grobner⟩
theorem add_neg (P : Pt) : add P (neg P) = O := by
  have h1 : sx P (neg P) * (1 + dk P (neg P)) = P.x * P.y + P.y * (-P.x) := sx_eq P (neg P)
  have h2 : sy P (neg P) * (1 - dk P (neg P)) = P.y * P.y - P.x * (-P.x) := sy_eq P (neg P)
  have hk : dk P (neg P) = d * (P.x * (-P.x) * P.y * P.y) := rfl
  have hA := denA P (neg P)
  have hB := denB P (neg P)
  have on := P.on
  unfold On at on
  apply Pt.ext'
  · show sx P (neg P) = 0
    refine F.cancel hA ?_
    generalize sx P (neg P) = s at *
    generalize dk P (neg P) = k at *
    clear h2 hB hA hk on
    grobner
  · show sy P (neg P) = 1
    refine F.cancel hB ?_
    generalize sy P (neg P) = s at *
    rw [hk] at h2 ⊢
    clear h1 hA hB hk
    grobner
theorem add_y (P Q : Pt) : (add P Q).y = sy P Q := rfl
theorem diff (P D : Pt) : add (add P D) (neg P) = D := by
  rw [add_comm P D, add_assoc, add_neg, add_O]
theorem sum_num (x1 y1 x2 y2 d k yS yD : F) (h1 : x1 * x1 + y1 * y1 = 1 + d * (x1 * x1) * (y1 * y1)) (h2 : x2 * x2 + y2 * y2 = 1 + d * (x2 * x2) * (y2 * y2)) (hk : k = d * (x1 * x2 * y1 * y2))
    (hA : 1 + k ≠ 0) (hB : 1 - k ≠ 0) (hS : yS * (1 - k) = y1 * y2 - x1 * x2) (hD : yD * (1 + k) = y1 * y2 + x1 * x2) :
    (y1 + y2) * (y1 + y2) * ((1 - yS) * (1 - yD)) = (y1 - y2) * (y1 - y2) * ((1 + yS) * (1 + yD)) := by
  refine F.cancel (c := (1 - k) * (1 + k)) (F.mul_ne_zero hB hA) ?_
  have l1 : (1 - k) * (1 + k) * ((y1 + y2) * (y1 + y2) * ((1 - yS) * (1 - yD))) = (y1 + y2) * (y1 + y2) * ((1 - k - (y1 * y2 - x1 * x2)) * (1 + k - (y1 * y2 + x1 * x2))) := by rw [← hS, ← hD]; clear h1 h2 hk hA hB hS hD; grobner
  have l2 : (1 - k) * (1 + k) * ((y1 - y2) * (y1 - y2) * ((1 + yS) * (1 + yD))) = (y1 - y2) * (y1 - y2) * ((1 - k + (y1 * y2 - x1 * x2)) * (1 + k + (y1 * y2 + x1 * x2))) := by rw [← hS, ← hD]; clear h1 h2 hk hA hB hS hD; grobner
  rw [l1, l2, hk]
  clear l1 l2 hk hA hB hS hD
  grobner
theorem flat_num (x1 x2 y1 y2 k y d : F) (z1 : y1 = 0) (z2 : y2 = 0) (z3 : k = 0) (h1 : x1 * x1 + y1 * y1 = 1 + d * (x1 * x1) * (y1 * y1)) (h2 : x2 * x2 + y2 * y2 = 1 + d * (x2 * x2) * (y2 * y2)) (h : y * (1 + k) = y1 * y2 + x1 * x2) : (y - 1) * (y + 1) = 0 := by
  have e1 : x1 * x1 = 1 := by clear h h2 z2 z3; grobner
  have e2 : x2 * x2 = 1 := by clear h h1 z1 z3; grobner
  have e3 : y = x1 * x2 := by clear h1 h2 e1 e2; grobner
  rw [e3]
  clear h h1 h2 e3 z1 z2 z3
  grobner
theorem ratio (X Z s t : F) (h0 : ¬ (X = 0 ∧ Z = 0)) (h1 : ¬ (s = 0 ∧ t = 0)) (h : X * t = Z * s) : ∃ l : F, l ≠ 0 ∧ X = l * s ∧ Z = l * t := by
  by_cases hs : s = 0
  · have ht : t ≠ 0 := fun e => h1 ⟨hs, e⟩
    have hX : X = 0 := (F.mul_eq_zero (show X * t = 0 by rw [h, hs]; grobner)).resolve_right ht
    have hi := F.mul_inv t ht
    refine ⟨Z * inv t, fun e => h0 ⟨hX, ?_⟩, ?_, ?_⟩
    · have : Z * inv t * t = 0 := by rw [e]; grobner
      grobner
    · rw [hX, hs]; grobner
    · grobner
  · have hi := F.mul_inv s hs
    have e2 : Z = X * inv s * t := by
      have : Z * s * inv s = X * t * inv s := by rw [h]
      grobner
    refine ⟨X * inv s, fun e => h0 ?_, ?_, e2⟩
    · have e1 : X = 0 := by
        have : X * inv s * s = 0 := by rw [e]; grobner
        grobner
      exact ⟨e1, by rw [e2, e1]; grobner⟩
    · grobner
theorem St.sum {X Z X' Z' u : F} {P D : Pt} (h : St X Z P) (h' : St X' Z' (add P D)) (hu : u * (1 - D.y) = 1 + D.y) (h0 : u ≠ 0) (hD1 : 1 - D.y ≠ 0) : St (tX X Z X' Z') (tZ X Z X' Z' u) (add P (add P D)) := by
  obtain ⟨l, hl, hX, hZ⟩ := h
  obtain ⟨m, hm, hX', hZ'⟩ := h'
  have hdiff := diff P D
  generalize add P D = Q at *
  have hS : sy P Q * (1 - dk P Q) = P.y * Q.y - P.x * Q.x := sy_eq P Q
  have hA := denA P Q
  have hB := denB P Q
  have hDy : D.y * (1 + dk P Q) = P.y * Q.y + P.x * Q.x := by
    have e1 : sy Q (neg P) * (1 - dk Q (neg P)) = Q.y * P.y - Q.x * (-P.x) := sy_eq Q (neg P)
    have e2 : sy Q (neg P) = D.y := by rw [← add_y, hdiff]
    have e3 : dk Q (neg P) = - dk P Q := by
      show d * (Q.x * (-P.x) * Q.y * P.y) = - (d * (P.x * Q.x * P.y * Q.y))
      grobner
    rw [e2, e3] at e1
    generalize dk P Q = k at *
    clear hS hdiff
    grobner
  have key := sum_num P.x P.y Q.x Q.y d (dk P Q) (sy P Q) D.y P.on Q.on rfl hA hB hS hDy
  have eX1 : tX X Z X' Z' = 2 * 2 * (2 * 2) * (l * l * (m * m)) * ((P.y + Q.y) * (P.y + Q.y)) := by rw [hX, hZ, hX', hZ']; unfold tX; clear key hDy hA hB hS; grobner
  have eZ1 : tZ X Z X' Z' u = 2 * 2 * (2 * 2) * (l * l * (m * m)) * (u * ((P.y - Q.y) * (P.y - Q.y))) := by rw [hX, hZ, hX', hZ']; unfold tZ; clear key hDy hA hB hS; grobner
  have h16 : 2 * 2 * (2 * 2) * (l * l * (m * m)) ≠ 0 := by
    exact F.mul_ne_zero (F.mul_ne_zero (F.mul_ne_zero two_ne two_ne) (F.mul_ne_zero two_ne two_ne)) (F.mul_ne_zero (F.mul_ne_zero hl hl) (F.mul_ne_zero hm hm))
  have hcross : (P.y + Q.y) * (P.y + Q.y) * (1 - sy P Q) = u * ((P.y - Q.y) * (P.y - Q.y)) * (1 + sy P Q) := by
    refine F.cancel hD1 ?_
    generalize sy P Q = S at *
    generalize P.y = y1 at *; generalize Q.y = y2 at *; generalize D.y = y3 at *
    have e1 : (1 - y3) * ((y1 + y2) * (y1 + y2) * (1 - S)) = (y1 + y2) * (y1 + y2) * ((1 - S) * (1 - y3)) := by clear key hDy hS; grobner
    have e2 : (1 - y3) * (u * ((y1 - y2) * (y1 - y2)) * (1 + S)) = (y1 - y2) * (y1 - y2) * ((1 + S) * (u * (1 - y3))) := by clear key hDy hS hu; grobner
    rw [e1, e2, hu]
    exact key
  have hne : ¬ ((P.y + Q.y) * (P.y + Q.y) = 0 ∧ u * ((P.y - Q.y) * (P.y - Q.y)) = 0) := by
    intro ⟨z1, z2⟩
    have z3 : P.y + Q.y = 0 := (F.mul_eq_zero z1).elim id id
    have z4 : P.y - Q.y = 0 := (F.mul_eq_zero ((F.mul_eq_zero z2).resolve_left h0)).elim id id
    have z5 : P.y = 0 := (F.mul_eq_zero (show 2 * P.y = 0 by clear key hcross hDy hS; grobner)).resolve_left two_ne
    have z6 : Q.y = 0 := by clear key hcross hDy hS; grobner
    have o1 := P.on
    have o2 := Q.on
    unfold On at o1 o2
    have hk0 : dk P Q = 0 := by unfold dk; rw [z5, z6]; grobner
    have y3 : (D.y - 1) * (D.y + 1) = 0 := flat_num _ _ _ _ _ _ d z5 z6 hk0 o1 o2 hDy
    rcases F.mul_eq_zero y3 with y4 | y4
    · exact hD1 (by clear key hcross hS hDy; grobner)
    · have : u * (1 - D.y) = 0 := by rw [hu]; clear key hcross hS hDy; grobner
      exact (F.mul_eq_zero this).elim h0 hD1
  have hst : ¬ (1 + sy P Q = 0 ∧ 1 - sy P Q = 0) := fun ⟨a, b⟩ => two_ne (by clear key hcross hS; grobner)
  obtain ⟨n, hn, e1, e2⟩ := ratio _ _ (1 + sy P Q) (1 - sy P Q) hne hst hcross
  refine ⟨2 * 2 * (2 * 2) * (l * l * (m * m)) * n, F.mul_ne_zero h16 hn, ?_, ?_⟩
  · rw [eX1, e1]
    show _ = _ * (1 + sy P Q)
    generalize sy P Q = S at *
    clear key hcross hS e1 e2 eX1 eZ1 hX hZ hX' hZ'
    grobner
  · rw [eZ1, e2]
    show _ = _ * (1 - sy P Q)
    generalize sy P Q = S at *
    clear key hcross hS e1 e2 eX1 eZ1 hX hZ hX' hZ'
    grobner
end Go.Proofs.Ytikicljlgfgfbaa.AG
namespace Go.Proofs.Ytikicljlgfgfbaa.AG
set_option linter.unusedVariables false
theorem sub_self' (a : F) : a - a = 0 := by grobner
theorem mul_zero' (a : F) : a * 0 = 0 := by grobner
theorem add_zero' (a : F) : a + 0 = a := by grobner
theorem two_sum (y : F) : (1 - y) + (1 + y) = 2 := by grobner
theorem eZ_z (x z : F) (h : z = 0) : eZ x z = 0 := by
  have e : eE x z = 0 := by unfold eE; grobner
  unfold eZ
  generalize eE x z = w at *
  grobner
theorem eZ_x (x z : F) (h : x = 0) : eZ x z = 0 := by
  have e : eE x z = 0 := by unfold eE; grobner
  unfold eZ
  generalize eE x z = w at *
  grobner
theorem flat_x (s x y k : F) (hx : x = 0) (hk : k = 0) (e : s * (1 + k) = x * y + y * x) : s = 0 := by grobner
theorem flat_y (s x y k : F) (hx : x = 0) (hk : k = 0) (hy : y * y = 1) (e : s * (1 - k) = y * y - x * x) : s = 1 := by grobner
structure Qd where
  x1 : F
  z1 : F
  x2 : F
  z2 : F
/-- The pair of ratios behind m bits. -/
def pairF (bit : Nat → Bool) (u : F) : Nat → Qd
  | 0 => ⟨1, 0, u, 1⟩
  | m + 1 =>
    let s := pairF bit u m
    if bit (254 - m) then ⟨tX s.x1 s.z1 s.x2 s.z2, tZ s.x1 s.z1 s.x2 s.z2 u, eX s.x2 s.z2, eZ s.x2 s.z2⟩
    else ⟨eX s.x1 s.z1, eZ s.x1 s.z1, tX s.x1 s.z1 s.x2 s.z2, tZ s.x1 s.z1 s.x2 s.z2 u⟩
/-- The number of m bits. -/
def kN (bit : Nat → Bool) : Nat → Nat
  | 0 => 0
  | m + 1 => kN bit m + kN bit m + (if bit (254 - m) then 1 else 0)
theorem add4 (A B C D : Pt) : add (add A B) (add C D) = add (add A C) (add B D) := by
  rw [add_assoc, add_assoc, ← add_assoc B C D, add_comm B C, add_assoc C B D]
theorem pairF_ok (bit : Nat → Bool) (u : F) (D : Pt) (hu : u * (1 - D.y) = 1 + D.y) (h0 : u ≠ 0) (hD1 : 1 - D.y ≠ 0) :
    ∀ m, St (pairF bit u m).x1 (pairF bit u m).z1 (mul (kN bit m) D) ∧ St (pairF bit u m).x2 (pairF bit u m).z2 (add (mul (kN bit m) D) D)
  | 0 => by
    constructor
    · have h2 := F.mul_inv 2 two_ne
      refine ⟨inv 2, fun e => one_ne (by rw [← h2, e]; grobner), ?_, ?_⟩
      · show 1 = inv 2 * (1 + 1)
        generalize inv 2 = i at *
        grobner
      · show 0 = inv 2 * (1 - 1)
        generalize inv 2 = i at *
        clear h2
        grobner
    · show St u 1 (add O D)
      rw [O_add]
      have h2 := F.mul_inv _ hD1
      refine ⟨inv (1 - D.y), fun e => one_ne (by rw [← h2, e]; grobner), ?_, ?_⟩
      · generalize inv (1 - D.y) = i at *
        rw [← hu]
        grobner
      · generalize inv (1 - D.y) = i at *
        grobner
  | m + 1 => by
    obtain ⟨i1, i2⟩ := pairF_ok bit u D hu h0 hD1 m
    have hs := St.sum i1 i2 hu h0 hD1
    have d1 := i1.dbl
    have d2 := i2.dbl
    have e0 : pairF bit u (m + 1) = if bit (254 - m) then ⟨tX (pairF bit u m).x1 (pairF bit u m).z1 (pairF bit u m).x2 (pairF bit u m).z2, tZ (pairF bit u m).x1 (pairF bit u m).z1 (pairF bit u m).x2 (pairF bit u m).z2 u, eX (pairF bit u m).x2 (pairF bit u m).z2, eZ (pairF bit u m).x2 (pairF bit u m).z2⟩
      else ⟨eX (pairF bit u m).x1 (pairF bit u m).z1, eZ (pairF bit u m).x1 (pairF bit u m).z1, tX (pairF bit u m).x1 (pairF bit u m).z1 (pairF bit u m).x2 (pairF bit u m).z2, tZ (pairF bit u m).x1 (pairF bit u m).z1 (pairF bit u m).x2 (pairF bit u m).z2 u⟩ := rfl
    have e1 : kN bit (m + 1) = kN bit m + kN bit m + (if bit (254 - m) then 1 else 0) := rfl
    rw [e0, e1]
    generalize pairF bit u m = s at *
    generalize kN bit m = k at *
    cases hb : bit (254 - m)
    · simp only [Bool.false_eq_true, if_false, Nat.add_zero]
      rw [mul_add]
      refine ⟨d1, ?_⟩
      rw [add_assoc]
      exact hs
    · simp only [if_true]
      have e2 : mul (k + k + 1) D = add (mul k D) (add (mul k D) D) := by
        show add (mul (k + k) D) D = _
        rw [mul_add, add_assoc]
      rw [e2]
      refine ⟨hs, ?_⟩
      have e3 : add (add (mul k D) (add (mul k D) D)) D = add (add (mul k D) D) (add (mul k D) D) := by
        rw [← add_assoc (mul k D) (mul k D) D, add4 (mul k D) D (mul k D) D, add_assoc]
      rw [e3]
      exact d2
/-- The u of a point. -/
def uc (P : Pt) : F := (1 + P.y) * inv (1 - P.y)
theorem St.out {X Z : F} {P : Pt} (h : St X Z P) : X * inv Z = uc P := by
  obtain ⟨l, hl, hX, hZ⟩ := h
  unfold uc
  by_cases h1 : 1 - P.y = 0
  · rw [hZ, h1, show l * 0 = 0 by grobner, inv_zero]; grobner
  · have hz : Z ≠ 0 := by rw [hZ]; exact F.mul_ne_zero hl h1
    have e1 := F.mul_inv Z hz
    have e2 := F.mul_inv _ h1
    refine F.cancel hz ?_
    generalize inv Z = i at *
    generalize inv (1 - P.y) = j at *
    have r1 : Z * (X * i) = X := by
      rw [show Z * (X * i) = X * (Z * i) by clear e1 e2 hX hZ; grobner, e1]; clear e1 e2 hX hZ; grobner
    have r2 : Z * ((1 + P.y) * j) = X := by
      rw [hZ, hX, show l * (1 - P.y) * ((1 + P.y) * j) = l * (1 + P.y) * ((1 - P.y) * j) by clear e1 e2 hX hZ r1; grobner, e2]; clear e1 e2 hX hZ r1; grobner
    rw [r1, r2]
/-- At zero. -/
theorem pairF_zero (bit : Nat → Bool) : ∀ m, (pairF bit 0 (m + 1)).z1 = 0 ∧ (pairF bit 0 (m + 1)).z2 = 0 := by
  have step : ∀ m (x1 z1 x2 z2 : F), pairF bit 0 m = ⟨x1, z1, x2, z2⟩ → eZ x1 z1 = 0 → eZ x2 z2 = 0 → (pairF bit 0 (m + 1)).z1 = 0 ∧ (pairF bit 0 (m + 1)).z2 = 0 := by
    intro m x1 z1 x2 z2 e h1 h2
    have e0 : pairF bit 0 (m + 1) = if bit (254 - m) then ⟨tX (pairF bit 0 m).x1 (pairF bit 0 m).z1 (pairF bit 0 m).x2 (pairF bit 0 m).z2, tZ (pairF bit 0 m).x1 (pairF bit 0 m).z1 (pairF bit 0 m).x2 (pairF bit 0 m).z2 0, eX (pairF bit 0 m).x2 (pairF bit 0 m).z2, eZ (pairF bit 0 m).x2 (pairF bit 0 m).z2⟩
      else ⟨eX (pairF bit 0 m).x1 (pairF bit 0 m).z1, eZ (pairF bit 0 m).x1 (pairF bit 0 m).z1, tX (pairF bit 0 m).x1 (pairF bit 0 m).z1 (pairF bit 0 m).x2 (pairF bit 0 m).z2, tZ (pairF bit 0 m).x1 (pairF bit 0 m).z1 (pairF bit 0 m).x2 (pairF bit 0 m).z2 0⟩ := rfl
    rw [e0, e]
    have ht : tZ x1 z1 x2 z2 0 = 0 := by unfold tZ; grobner
    cases hb : bit (254 - m)
    · simp only [Bool.false_eq_true, if_false]
      exact ⟨h1, ht⟩
    · simp only [if_true]
      exact ⟨ht, h2⟩
  intro m
  induction m with
  | zero =>
    exact step 0 1 0 0 1 rfl (eZ_z 1 0 rfl) (eZ_x 0 1 rfl)
  | succ m ih =>
    rcases hq : pairF bit 0 (m + 1) with ⟨x1, z1, x2, z2⟩
    rw [hq] at ih
    have i1 : z1 = 0 := ih.1
    have i2 : z2 = 0 := ih.2
    exact step (m + 1) x1 z1 x2 z2 hq (eZ_z x1 z1 i1) (eZ_z x2 z2 i2)
/-- Points with u = 0 double to the neutral one. -/
theorem uc_zero (D : Pt) (h : uc D = 0) : add D D = O := by
  have hy : (D.y - 1) * (D.y + 1) = 0 := by
    by_cases h1 : 1 - D.y = 0
    · have : D.y - 1 = 0 := by grobner
      rw [this]; grobner
    · have e2 := F.mul_inv _ h1
      unfold uc at h
      have h3 : 1 + D.y = 0 := by
        rcases F.mul_eq_zero h with h | h
        · exact h
        · exact (one_ne (by rw [← e2, h]; grobner)).elim
      have : D.y + 1 = 0 := by grobner
      rw [this]; grobner
  have hyy : D.y * D.y = 1 := by clear h; grobner
  have on := D.on
  unfold On at on
  rw [hyy] at on
  have hx : (D.x * D.x) * (1 - d) = 0 := by clear hy hyy h; grobner
  have hd : 1 - d ≠ 0 := fun e => d_not_square 1 (by clear hx on hy hyy h; grobner)
  have hx0 : D.x = 0 := (F.mul_eq_zero ((F.mul_eq_zero hx).resolve_right hd)).elim id id
  have e1 := sx_eq D D
  have e2 := sy_eq D D
  have e3 : dk D D = 0 := by unfold dk; rw [hx0]; grobner
  exact Pt.ext' (flat_x _ _ _ _ hx0 e3 e1) (flat_y _ _ _ _ hx0 e3 hyy e2)
theorem mul_O : ∀ n, mul n O = O
  | 0 => rfl
  | n + 1 => by show add (mul n O) O = O; rw [mul_O n, add_O]
theorem uc_O : uc O = 0 := by
  show (1 + 1) * inv (1 - 1) = 0
  rw [sub_self', inv_zero, mul_zero']
/-- The multiplication as both sides compute it. -/
def smF (bit : Nat → Bool) (u : F) : F := (pairF bit u 255).x1 * inv (pairF bit u 255).z1
theorem smF_uc (bit : Nat → Bool) (hb : bit 0 = false) (D : Pt) : smF bit (uc D) = uc (mul (kN bit 255) D) := by
  by_cases h0 : uc D = 0
  · have e1 : kN bit 255 = kN bit 254 * 2 := by
      have : kN bit 255 = kN bit 254 + kN bit 254 + (if bit 0 then 1 else 0) := rfl
      rw [this, hb]
      simp only [Bool.false_eq_true, if_false]
      omega
    have e2 : mul 2 D = add D D := by show add (add O D) D = _; rw [O_add]
    rw [e1, mul_mul, e2, uc_zero D h0, mul_O, uc_O, h0]
    unfold smF
    rw [(pairF_zero bit 254).1, inv_zero]
    grobner
  · have h1 : 1 - D.y ≠ 0 := fun e => h0 (by unfold uc; rw [e, inv_zero]; grobner)
    have hu : uc D * (1 - D.y) = 1 + D.y := by
      have e2 := F.mul_inv _ h1
      unfold uc
      generalize inv (1 - D.y) = j at *
      rw [show (1 + D.y) * j * (1 - D.y) = (1 + D.y) * ((1 - D.y) * j) by clear e2; grobner, e2]
      clear e2
      grobner
    exact (pairF_ok bit (uc D) D hu h0 h1 255).1.out
/-- The base point. -/
def G : Pt := ⟨gx, gy, g_on⟩
theorem uc_G : uc G = 9 := by
  have hg : 1 + gy = 9 * (1 - gy) := g_nine
  have h1 : 1 - gy ≠ 0 := by
    intro e
    rw [e] at hg
    have h2 : 1 + gy = 0 := by rw [hg]; grobner
    exact two_ne (by rw [← two_sum gy, e, h2, add_zero'])
  have e2 := F.mul_inv _ h1
  show (1 + gy) * inv (1 - gy) = 9
  rw [hg]
  generalize inv (1 - gy) = j at *
  generalize 1 - gy = w at *
  clear hg h1
  grobner
/-- Two scalars agree. -/
theorem agree (a b : Nat → Bool) (ha : a 0 = false) (hb : b 0 = false) : smF a (smF b 9) = smF b (smF a 9) := by
  rw [← uc_G, smF_uc b hb, smF_uc a ha, smF_uc a ha, smF_uc b hb, mul_swap]
end Go.Proofs.Ytikicljlgfgfbaa.AG
