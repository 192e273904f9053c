import Derived.Test.YtbfjnepmhbnnjaaS2
import Derived.Test.YtbfjnepmhbnnjaaConv
namespace Go.Proofs.Ytbfjnepmhbnnjaa
open Go.RowKit
set_option linter.unusedVariables false

theorem Own.nilAt {k : IntKind} {e : TypeId} {base : Nat} (w : World) (g : Nat) (hg : g = w.heap.size) (hb : base ≤ g) : Own k e base (w.alloc (.cells #[] e)) (.slice (some ⟨g, 0, none⟩) 0 0) [] := by
  subst hg
  exact Own.nil w hb

theorem Own.madeAt {k : IntKind} {e : TypeId} {base : Nat} (w : World) (g n : Nat) (hg : g = w.heap.size) (hb : base ≤ g) (hn : n ≤ 1000000) : Own k e base (w.alloc (.cells (Iv k (List.replicate n 0)) e)) (.slice (some ⟨g, 0, none⟩) n n) (List.replicate n 0) := by
  subst hg
  exact Own.made w n hb hn
theorem step_in {acc d q r : Int} (h0 : 0 ≤ acc) (h1 : acc < P130) (h2 : 0 ≤ d) (h3 : d < 256 ^ 16) (h4 : 0 < q) (h5 : q ≤ 256 ^ 16) (h6 : 0 ≤ r) (h7 : r < 256 ^ 16) : 0 ≤ (acc + (d + q)) * r ∧ (acc + (d + q)) * r < 256 ^ 40 := by
  rw [pow16] at *
  rw [pow40]
  unfold P130 at h1
  have hs0 : 0 ≤ acc + (d + q) := by omega
  have hs1 : acc + (d + q) ≤ 2722258935367507707706996859454145691648 := by omega
  refine ⟨Int.mul_nonneg hs0 h6, ?_⟩
  have : (acc + (d + q)) * r ≤ 2722258935367507707706996859454145691648 * r := Int.mul_le_mul_of_nonneg_right hs1 h6
  omega
theorem infoS24 : (Try.prog.info? 24).map (·.size) = some 16 := by kernel_rfl
theorem two_new (w : World) : ∀ j, j < 2 → (w.alloc (.cells #[.int .i64 0, .int .i64 0] 3)).cell? ⟨w.heap.size, 0 + j, none⟩ = some (.int .i64 ([0, 0].getD j 0)) := by
  intro j hj
  rw [World.cell?_alloc_at _ _ _ _ rfl]
  match j, hj with
  | 0, _ => rfl
  | 1, _ => rfl
set_option maxRecDepth 100000 in
set_option maxHeartbeats 8000000 in
theorem spec_any (key zs : List Int) (m : Nat) (a : Option Addr) (cap : Nat) (w : World) (hm : zs.length = m) (hm2 : m ≤ 1048576) (hk : key.length = 32) (hkb : Bytes key) (hz : Bytes zs)
    (hc : ∀ i, i < m → ∃ b o, a = some ⟨b, o, none⟩ ∧ b < w.heap.size ∧ w.cell? ⟨b, o + i, none⟩ = some (.int .u8 (zs.getD i 0))) :
    Calls Try.prog 4 #[.agg (Iv .u8 key), .slice a m cap] w fun e w' => e = .returned (.agg (Iv .u8 (tagOf key zs))) ∧ Below w.heap.size w w' := by
  have hmk17 : ∀ w, (Instr.makeSlice 31 (.int .i64 17) (.int .i64 17)).run Try.prog w = .ok (.slice (some ⟨w.heap.size, 0, none⟩) 17 17) (w.alloc (.cells (Iv .i64 (List.replicate 17 0)) 3)) := make_ints (P := Try.prog) 31 3 .i64 8 17 Try.underlying31 info3 (by decide) (by decide)
  have hmk40 : ∀ w, (Instr.makeSlice 31 (.int .i64 40) (.int .i64 40)).run Try.prog w = .ok (.slice (some ⟨w.heap.size, 0, none⟩) 40 40) (w.alloc (.cells (Iv .i64 (List.replicate 40 0)) 3)) := make_ints (P := Try.prog) 31 3 .i64 8 40 Try.underlying31 info3 (by decide) (by decide)
  go_enter Try.func4, Try.ntmps4
  go_wp2
  go_loopw [5, 6] (fun v i wr => ∃ k : Nat, k ≤ 16 ∧ i = .int .i64 k ∧ Own .i64 3 (w.heap.size + 2) wr v (rDigs key k) ∧ Below (w.heap.size + 2) ((w.alloc (.cells (Iv .u8 key) 22)).alloc (.cells (Iv .u8 (List.replicate 16 0)) 24)) wr) (fun _ i _ => 16 - (intOf i).toNat)
  case atStart =>
    exact ⟨0, by omega, rfl, Own.nilAt _ _ (by simp) (by omega), (Below.refl _ _).alloc (by simp) _⟩
  case round =>
    obtain ⟨k, hk16, rfl, hown, hbel⟩ := hrel
    have hsz := hbel.size
    have hs2 : w.heap.size + 2 ≤ wr.heap.size := by simpa using hsz
    by_cases hlt : k < 16
    · have ck : wr.cell? ⟨w.heap.size, k, none⟩ = some (.int .u8 (key.getD k 0)) := by
        rw [hbel.cell (p := ⟨w.heap.size, k, none⟩) (by show w.heap.size < _; omega), World.cell?_alloc_past _ _ _ (by simp), World.cell?_alloc_at _ _ _ _ rfl, Iv_get .u8 key k (by omega)]
        simp [show k < key.length by omega]
      have bk := hkb k
      obtain ⟨b0, b1⟩ := bk
      have HL : Hid ((rDigs key k).length ≤ 100000000) := by show _ ≤ _; rw [rDigs_length]; omega
      have HS : Hid (rDigs key (k + 1) = rDigs key k ++ [rDig key k]) := rDigs_succ key k
      have HD : Hid (rDig key k = if k % 4 = 3 then key.getD k 0 % 16 else if k % 4 = 0 ∧ 0 < k then key.getD k 0 - key.getD k 0 % 4 else key.getD k 0) := rfl
      generalize key.getD k 0 = x at *
      clear hsz
      by_cases h3 : k % 4 = 3
      · have t3 : ((k : Int) % 4 == 3) = true := by rw [beq_iff_eq]; omega
        have t0 : ((k : Int) % 4 == 0) = false := by rw [beq_eq_false_iff_ne]; omega
        go_wp2_with (at_builtin; refine push_law .i64 31 3 8 Try.underlying31 info3 (by decide) rfl (.tmp 46) (.tmp 48) rfl (w.heap.size + 2) _ _ _ (rDigs key k) _ rfl rfl hown hbel hs2 HL.out ?_; intro v' w' hown' hbel' _ _)
        go_roundw
        case rel => exact ⟨k + 1, by omega, by go_num, by rw [HS.out, HD.out, if_pos h3]; exact hown', hbel'⟩
        case measure => simp [intOf]; omega
      · have t3 : ((k : Int) % 4 == 3) = false := by rw [beq_eq_false_iff_ne]; omega
        by_cases h0 : k % 4 = 0 ∧ 0 < k
        · obtain ⟨h0a, h0b⟩ := h0
          have t0 : ((k : Int) % 4 == 0) = true := by rw [beq_iff_eq]; omega
          have tp : (0 : Int) < (k : Int) := by omega
          go_wp2_with (at_builtin; refine push_law .i64 31 3 8 Try.underlying31 info3 (by decide) rfl (.tmp 46) (.tmp 48) rfl (w.heap.size + 2) _ _ _ (rDigs key k) _ rfl rfl hown hbel hs2 HL.out ?_; intro v' w' hown' hbel' _ _)
          go_roundw
          case rel => exact ⟨k + 1, by omega, by go_num, by rw [HS.out, HD.out, if_neg h3, if_pos ⟨h0a, h0b⟩]; exact hown', hbel'⟩
          case measure => simp [intOf]; omega
        · have HX : Hid (rDigs key (k + 1) = rDigs key k ++ [x]) := by rw [HS.out, HD.out, if_neg h3, if_neg h0]; rfl
          by_cases hk0 : k = 0
          · subst hk0
            clear h0 t3
            go_wp2_with (at_builtin; refine push_law .i64 31 3 8 Try.underlying31 info3 (by decide) rfl (.tmp 46) (.tmp 48) rfl (w.heap.size + 2) _ _ _ (rDigs key 0) _ rfl rfl hown hbel hs2 HL.out ?_; intro v' w' hown' hbel' _ _)
            go_roundw
            case rel => exact ⟨1, by omega, by go_num, by rw [HX.out]; exact hown', hbel'⟩
            case measure => simp [intOf]
          · have t0 : ((k : Int) % 4 == 0) = false := by rw [beq_eq_false_iff_ne]; omega
            clear h0
            go_wp2_with (at_builtin; refine push_law .i64 31 3 8 Try.underlying31 info3 (by decide) rfl (.tmp 46) (.tmp 48) rfl (w.heap.size + 2) _ _ _ (rDigs key k) _ rfl rfl hown hbel hs2 HL.out ?_; intro v' w' hown' hbel' _ _)
            go_roundw
            case rel => exact ⟨k + 1, by omega, by go_num, by rw [HX.out]; exact hown', hbel'⟩
            case measure => simp [intOf]; omega
    · obtain rfl : k = 16 := by omega
      obtain ⟨gr, capr, rfl, r1, r2, r3, r4, r5, r6⟩ := hown.held 16 (rDigs_length key 16) (by decide)
      have HR : Hid (∀ i, i < 16 → wr.cell? ⟨gr, i, none⟩ = some (.int .i64 ((rDigs key 16).getD i 0))) := r5
      have HRB : Hid (Bytes (rDigs key 16)) := rDigs_bytes hkb 16
      have HRV : Hid (num8 (rDigs key 16) = rNum key) := rDigs_value key hkb
      have HRL : Hid ((rDigs key 16).length = 16) := rDigs_length key 16
      have HC : Hid (∀ i, i < m → ∃ b o, a = some ⟨b, o, none⟩ ∧ b < w.heap.size ∧ w.cell? ⟨b, o + i, none⟩ = some (.int .u8 (zs.getD i 0))) := hc
      have HM : Hid (zs.length = m) := hm
      have HKL : Hid (key.length = 32) := hk
      generalize rDigs key 16 = R at *
      obtain ⟨WR, rfl⟩ : ∃ X, X = wr := ⟨_, rfl⟩
      clear hc r5 r6 hm hk hsz
      go_wp2
      go_loopw [8, 9] (fun v i wr => ∃ (j : Nat) (A : List Int), i = .int .i64 ((16 * j : Nat) : Int) ∧ 16 * j < m + 16 ∧ Own .i64 3 WR.heap.size wr v A ∧ A.length = 17 ∧ Bytes A ∧ num8 A = accTo (rNum key) zs j ∧ Below WR.heap.size WR wr) (fun _ i _ => m + 16 - (intOf i).toNat)
      case atStart =>
        refine ⟨0, List.replicate 17 0, rfl, by omega, Own.made WR 17 (Nat.le_refl _) (by decide), by simp, ?_, ?_, (Below.refl _ _).alloc (Nat.le_refl _) _⟩
        · intro i
          simp only [List.getD_eq_getElem?_getD, List.getElem?_replicate]
          split <;> simp
        · rw [accTo]
          decide
      case round =>
        obtain ⟨j, A, rfl, hj16, hownA, hAl, hAb, hAv, hbelA⟩ := hrel
        obtain ⟨WA, rfl⟩ : ∃ X, X = wr := ⟨_, rfl⟩
        obtain ⟨gA, capA, rfl, a1, a2, a3, a4, a5, a6⟩ := hownA.held 17 hAl (by decide)
        have hsA := hbelA.size
        have HAl : Hid (A.length = 17) := hAl
        have HAv : Hid (num8 A = accTo (rNum key) zs j) := hAv
        have HA5 : Hid (∀ i, i < 17 → WA.cell? ⟨gA, i, none⟩ = some (.int .i64 (A.getD i 0))) := a5
        clear hAl hAv a5
        by_cases hlt : 16 * j < m
        · have HO : Hid (Own .i64 3 WA.heap.size (WA.alloc (.cells #[] 3)) (.slice (some ⟨WA.heap.size, 0, none⟩) 0 0) []) := Own.nil WA (Nat.le_refl _)
          have HB : Hid (Below WA.heap.size WA (WA.alloc (.cells #[] 3))) := (Below.refl _ _).alloc (Nat.le_refl _) _
          have HN : Hid (∀ i, i < 17 → (WA.alloc (.cells #[] 3)).cell? ⟨gA, 0 + i, none⟩ = some (.int .i64 (A.getD i 0))) := by
            intro i hi
            rw [World.cell?_alloc_past _ _ _ a2, Nat.zero_add, HA5.out i hi]
          have hlt' : ((16 * j : Nat) : Int) < (m : Int) := by omega
          have HL2 : Hid (A.length + 2 ≤ 1000000000) := by show _ ≤ _; rw [HAl.out]; decide
          go_wp2_with (first
            | (at_builtin; (refine extend_law .i64 31 3 8 Try.underlying31 info3 (by decide) rfl (.tmp 57) (.tmp 58) rfl WA.heap.size WA _ _ [] gA 0 17 _ A HAl.out rfl rfl HO.out HB.out (by simp) (by simp) HN.out ?_; intro v2 w2 hown2 hbel2 _ _; rw [List.nil_append] at hown2; have hs2 := hbel2.size))
            | (at_builtin; (refine extend_law .i64 31 3 8 Try.underlying31 info3 (by decide) rfl (.tmp 60) (.tmp 61) rfl WA.heap.size WA _ _ A w2.heap.size 0 2 2 [0, 0] rfl rfl rfl (World.ownsRow.alloc hown2 _) (hbel2.alloc hs2 _) (by simp; omega) HL2.out (two_new w2) ?_; intro v3 w3 hown3 hbel3 _ _)))
          have HSl : Hid ((A ++ [0, 0]).length = 19) := by show _ = _; rw [List.length_append, HAl.out]; rfl
          obtain ⟨gs, caps, rfl, s1, s2, s3, s4, s5, s6⟩ := hown3.held 19 HSl.out (by decide)
          obtain ⟨D, hD⟩ : ∃ D, D = (zs.drop (16 * j)).take 16 := ⟨_, rfl⟩
          obtain ⟨L, hL⟩ : ∃ L, L = D.length := ⟨_, rfl⟩
          have hLv : L = min 16 (m - 16 * j) := by rw [hL, hD, List.length_take, List.length_drop, HM.out]
          have hDb : Bytes D := by rw [hD]; exact bytes_take (bytes_drop hz _) _
          have hDg : ∀ n, n < L → D.getD n 0 = zs.getD (16 * j + n) 0 := by
            intro n hn
            rw [hD, getD_take, if_pos (by omega)]
            simp only [List.getD_eq_getElem?_getD, List.getElem?_drop]
          have hS0 : ∀ i, 0 ≤ (A ++ [0, 0]).getD i 0 ∧ (A ++ [0, 0]).getD i 0 ≤ 255 := by
            intro i
            rw [getD_append]
            split
            · exact hAb i
            · generalize i - A.length = q
              match q with
              | 0 => simp
              | 1 => simp
              | q + 2 => simp
          have HDA : Hid (D = (zs.drop (16 * j)).take 16) := hD
          have HLD : Hid (D.length = L) := hL.symm
          have HDB : Hid (Bytes D) := hDb
          have HDG : Hid (∀ n, n < L → D.getD n 0 = zs.getD (16 * j + n) 0) := hDg
          have HS0 : Hid (∀ i, 0 ≤ (A ++ [0, 0]).getD i 0 ∧ (A ++ [0, 0]).getD i 0 ≤ 255) := hS0
          have hLa : L ≤ 16 := by omega
          have hLb : 16 * j + L ≤ m := by omega
          have hLc : L = 16 ∨ 16 * j + L = m := by omega
          have hLd : 0 < L := by omega
          have HLv : Hid (L = min 16 (m - 16 * j)) := hLv
          clear hD hL hDb hDg hS0 hLv hown2 hbel2 s5 s6
          go_loopw [11] (fun n wr => ∃ q : Nat, q ≤ L ∧ n = .int .i64 q ∧ Own .i64 3 WA.heap.size wr (.slice (some ⟨gs, 0, none⟩) 19 caps) (addTo (A ++ [0, 0]) D q) ∧ Below WA.heap.size WA wr) (fun n _ => 16 - (intOf n).toNat)
          case atStart => exact ⟨0, by omega, rfl, hown3, hbel3⟩
          case round =>
            obtain ⟨q, hq, rfl, hownS, hbelS⟩ := hrel
            have hal : (addTo (A ++ [0, 0]) D q).length = 19 := by rw [addTo_length, HSl.out]
            have HAL : Hid ((addTo (A ++ [0, 0]) D q).length = 19) := hal
            obtain ⟨gs', caps', hv', t1, t2, t3, t4, t5, t6⟩ := hownS.held 19 hal (by decide)
            simp only [Value.slice.injEq, Option.some.injEq, Addr.mk.injEq, and_true, true_and] at hv'
            obtain ⟨rfl, rfl⟩ := hv'
            have cS := t5 q (by omega)
            have fS := t6 q
            by_cases hqL : q < L
            · obtain ⟨b, o, rfl, hb, hcell⟩ := HC.out (16 * j + q) (by omega)
              have cz : wr.cell? ⟨b, o + (16 * j + q), none⟩ = some (.int .u8 (D.getD q 0)) := by
                rw [HDG.out q hqL, ← hcell]
                exact ((hbelS.cell (p := ⟨b, o + (16 * j + q), none⟩) (by show b < _; omega)).trans (hbelA.cell (p := ⟨b, o + (16 * j + q), none⟩) (by show b < _; omega))).trans ((hbel.cell (p := ⟨b, o + (16 * j + q), none⟩) (by show b < _; omega)).trans (by rw [World.cell?_alloc_past _ _ _ (by simp <;> omega), World.cell?_alloc_past _ _ _ hb]))
              have bz := HDB.out q
              have bS := HS0.out q
              rw [addTo_past _ _ q q (Nat.le_refl _) (by rw [HSl.out]; omega)] at cS
              have HST : Hid (addTo (A ++ [0, 0]) D (q + 1) = (addTo (A ++ [0, 0]) D q).set q ((A ++ [0, 0]).getD q 0 + D.getD q 0)) := by
                show _ = _
                rw [addTo, addTo_past _ _ q q (Nat.le_refl _) (by rw [HSl.out]; omega)]
              obtain ⟨p0, p1⟩ := bz
              obtain ⟨p2, p3⟩ := bS
              generalize D.getD q 0 = x at *
              generalize (A ++ [0, 0]).getD q 0 = y at *
              clear t5 t6 hcell hal
              have hq16 : (q : Int) < 16 := by omega
              go_wp2
              refine wp_region_head 13 mixedS (by kernel_rfl) ?_
              simp only [List.take_succ_cons, List.take_zero, List.drop_succ_cons, List.drop_zero]
              repeat (go_big_quiet_step (fail))
              refine wpQuiet_nil ?_
              go_wp2
              go_roundw
              case rel => exact ⟨q + 1, by omega, by go_num, by rw [HST.out]; exact (Own.set (w := wr.drew) hownS q (y + x)), hbelS.drew.setCell (by exact t1) _⟩
              case measure => simp [intOf]; omega
            · obtain rfl : q = L := by omega
              have HS1 : Hid (∀ i, 0 ≤ (addTo (A ++ [0, 0]) D q).getD i 0 ∧ (addTo (A ++ [0, 0]) D q).getD i 0 ≤ 510) := addTo_in (by decide) HS0.out HDB.out q (by rw [HSl.out]; omega)
              have HV1 : Hid (num8 (addTo (A ++ [0, 0]) D q) = accTo (rNum key) zs j + num8 D) := by
                show _ = _
                rw [addTo_value _ _ q (by rw [HSl.out]; omega) (by rw [HLD.out]; exact Nat.le_refl _), List.take_of_length_le (by rw [HLD.out]; exact Nat.le_refl _), num8_append, HAv.out]
                simp [num8]
              have bq := HS1.out q
              obtain ⟨b0, b1⟩ := bq
              generalize hS1 : addTo (A ++ [0, 0]) D q = S1 at *
              have HS2 : Hid (∀ i, 0 ≤ (S1.set q (S1.getD q 0 + 1)).getD i 0 ∧ (S1.set q (S1.getD q 0 + 1)).getD i 0 ≤ 511) := by
                intro i
                rw [getD_set _ _ _ _ (by rw [HAL.out]; omega)]
                have h1 := HS1.out i
                split <;> omega
              have HV2 : Hid (num8 (S1.set q (S1.getD q 0 + 1)) = accTo (rNum key) zs j + (num8 D + 256 ^ q)) := by
                show _ = _
                rw [num8_set _ _ _ (by rw [HAL.out]; omega), HV1.out, show S1.getD q 0 + 1 - S1.getD q 0 = 1 by omega, Int.mul_one]
                omega
              have HL2' : Hid ((S1.set q (S1.getD q 0 + 1)).length = 19) := by show _ = _; rw [List.length_set]; exact HAL.out
              have hownS2 : Own .i64 3 WA.heap.size (wr.setCell ⟨gs, q, none⟩ (.int .i64 (S1.getD q 0 + 1))) (.slice (some ⟨gs, 0, none⟩) 19 caps) (S1.set q (S1.getD q 0 + 1)) := hownS.set q _
              have hbelS2 : Below WA.heap.size WA (wr.setCell ⟨gs, q, none⟩ (.int .i64 (S1.getD q 0 + 1))) := hbelS.setCell (by exact t1) _
              have Hown2 : Hid (Own .i64 3 WA.heap.size (wr.setCell ⟨gs, q, none⟩ (.int .i64 (S1.getD q 0 + 1))) (.slice (some ⟨gs, 0, none⟩) 19 caps) (S1.set q (S1.getD q 0 + 1))) := hownS2
              have Hbel2 : Hid (Below WA.heap.size WA (wr.setCell ⟨gs, q, none⟩ (.int .i64 (S1.getD q 0 + 1)))) := hbelS2
              have Hsz2 : Hid ((wr.setCell ⟨gs, q, none⟩ (.int .i64 (S1.getD q 0 + 1))).heap.size = wr.heap.size) := by show _ = _; simp
              generalize S1.set q (S1.getD q 0 + 1) = S at *
              generalize S1.getD q 0 = z at *
              clear t5 t6 hownS2 hbelS2 hownS hbelS hS1 hal HS1 HV1
              have HP : Hid (q = 16 ∨ q < 16 ∧ 16 * j + q = m) := by rcases hLc with h | h; exact .inl h; exact (by omega : q = 16 ∨ q < 16 ∧ 16 * j + q = m)
              have step : (q = 16 ∨ q < 16 ∧ 16 * j + q = m) := HP.out
              rcases step with h16 | ⟨h16, hend⟩
              · have hq16 : (16 : Int) ≤ (q : Int) := by omega
                clear h16
                go_wp2
                generalize wr.setCell ⟨gs, q, none⟩ (.int .i64 (z + 1)) = W5 at *
                have hgp : gs < wr.heap.size := t2
                obtain ⟨gp, hgpe⟩ : ∃ gp, gp = wr.heap.size := ⟨_, rfl⟩
                have HG : Hid (gp = W5.heap.size) := by show gp = _; rw [Hsz2.out]; exact hgpe
                rw [← hgpe] at hgp ⊢
                have hW5s : WA.heap.size ≤ gp := by have := Hbel2.out.size; have := HG.out; omega
                have HcS : Hid (∀ i, i < 19 → W5.cell? ⟨gs, i, none⟩ = some (.int .i64 (S.getD i 0))) := by
                  intro i hi
                  have h := Hown2.out.rd.2 i (by rw [HL2'.out]; exact hi)
                  obtain ⟨b', o', he, hcell⟩ := h
                  simp only [Option.some.injEq, Addr.mk.injEq, and_true] at he
                  obtain ⟨rfl, rfl⟩ := he
                  rw [Nat.zero_add] at hcell
                  exact hcell
                have HcR : Hid (∀ i, i < 16 → W5.cell? ⟨gr, i, none⟩ = some (.int .i64 (R.getD i 0))) := fun i hi => ((Hbel2.out.cell (p := ⟨gr, i, none⟩) (by show gr < _; omega)).trans (hbelA.cell (p := ⟨gr, i, none⟩) r2)).trans (HR.out i hi)
                clear t2 hgpe t1 hbel3 hown3
                go_loopw [97] (fun i wr => ∃ t : Nat, t ≤ 19 ∧ i = .int .i64 t ∧ Own .i64 3 gp wr (.slice (some ⟨gp, 0, none⟩) 40 40) (prodI S R t) ∧ Below gp W5 wr) (fun i _ => 19 - (intOf i).toNat)
                case atStart => exact ⟨0, by omega, rfl, Own.madeAt W5 gp 40 HG.out (Nat.le_refl _) (by decide), (Below.refl _ _).alloc (Nat.le_of_eq HG.out) _⟩
                case round =>
                  obtain ⟨t, ht, rfl, hownP, hbelP⟩ := hrel
                  obtain ⟨W6, rfl⟩ : ∃ X, X = wr := ⟨_, rfl⟩
                  have hs6 := hbelP.size
                  have hs6' : gp ≤ W6.heap.size := by have := HG.out; omega
                  by_cases ht19 : t < 19
                  · have cSt := (hbelP.cell (p := ⟨gs, t, none⟩) hgp).trans (HcS.out t ht19)
                    have bSt := HS2.out t
                    obtain ⟨d0, d1⟩ := bSt
                    have HIN : Hid (∀ u : Nat, t + u ≤ 40 → ∀ x, 0 ≤ (prodJ (prodI S R t) S R t u).getD x 0 ∧ (prodJ (prodI S R t) S R t u).getD x 0 ≤ 2084880 * t + 130305 * u) := prodJ_in t (prodI_length S R t) (prodI_in HS2.out HRB.out t (by omega)) HS2.out HRB.out
                    have HPI : Hid (prodI S R (t + 1) = prodJ (prodI S R t) S R t 16) := rfl
                    have HST : Hid (∀ u, prodJ (prodI S R t) S R t (u + 1) = (prodJ (prodI S R t) S R t u).set (t + u) ((prodJ (prodI S R t) S R t u).getD (t + u) 0 + S.getD t 0 * R.getD u 0)) := fun u => rfl
                    have HPL : Hid (∀ u, (prodJ (prodI S R t) S R t u).length = 40) := fun u => (prodJ_length _ S R t u).trans (prodI_length S R t)
                    have hown0 : Own .i64 3 gp W6 (.slice (some ⟨gp, 0, none⟩) 40 40) (prodJ (prodI S R t) S R t 0) := hownP
                    generalize S.getD t 0 = x at *
                    generalize hQ : prodJ (prodI S R t) S R t = Q at *
                    clear hQ hownP
                    go_wp2
                    go_loopw [104] (fun i wr => ∃ u : Nat, u ≤ 16 ∧ i = .int .i64 u ∧ Own .i64 3 gp wr (.slice (some ⟨gp, 0, none⟩) 40 40) (Q u) ∧ Below gp W5 wr) (fun i _ => 16 - (intOf i).toNat)
                    case atStart => exact ⟨0, by omega, rfl, hown0, hbelP⟩
                    case round =>
                      obtain ⟨u, hu, rfl, hownQ, hbelQ⟩ := hrel
                      by_cases hu16 : u < 16
                      · have cRu := (hbelQ.cell (p := ⟨gr, u, none⟩) (by show gr < _; omega)).trans (HcR.out u hu16)
                        have bRu := HRB.out u
                        have bQ := HIN.out u (by omega) (t + u)
                        have HSu := HST.out u
                        obtain ⟨gp', capp', hv', y1, y2, y3, y4, y5, y6⟩ := hownQ.held 40 (HPL.out u) (by decide)
                        simp only [Value.slice.injEq, Option.some.injEq, Addr.mk.injEq, and_true, true_and] at hv'
                        obtain ⟨rfl, rfl⟩ := hv'
                        have cQ := y5 (t + u) (by omega)
                        have fQ := y6 (t + u)
                        obtain ⟨e0, e1⟩ := bRu
                        obtain ⟨e2, e3⟩ := bQ
                        have hm0 : 0 ≤ x * R.getD u 0 := Int.mul_nonneg d0 e0
                        have hm1 : x * R.getD u 0 ≤ 130305 := by
                          have h := Int.mul_le_mul_of_nonneg_right d1 e0
                          omega
                        have HSU : Hid (Q (u + 1) = (Q u).set (t + u) ((Q u).getD (t + u) 0 + x * R.getD u 0)) := HSu
                        generalize R.getD u 0 = y at *
                        generalize (Q u).getD (t + u) 0 = p at *
                        clear y5 y6 HSu
                        go_wp2
                        go_roundw
                        case rel => exact ⟨u + 1, by omega, by go_num, by rw [HSU.out]; exact hownQ.set (t + u) (p + x * y), hbelQ.setCell (Nat.le_refl _) _⟩
                        case measure => simp [intOf]; omega
                      · obtain rfl : u = 16 := by omega
                        go_wp2
                        go_roundw
                        case rel => exact ⟨t + 1, by omega, by go_num, by rw [HPI.out]; exact hownQ, hbelQ⟩
                        case measure => simp [intOf]; omega
                  · obtain rfl : t = 19 := by omega
                    have hin := prodI_in HS2.out HRB.out 19 (by decide)
                    have HDg : Hid (Digits (prodI S R 19)) := fun i => by have := hin i; omega
                    have HPv : Hid (num8 (prodI S R 19) = (accTo (rNum key) zs j + (num8 D + 256 ^ q)) * rNum key) := by
                      show _ = _
                      rw [prodI_value S R HRL.out 19 (by rw [HL2'.out]; exact Nat.le_refl _) (by decide), List.take_of_length_le (by rw [HL2'.out]; exact Nat.le_refl _), HV2.out, HRV.out]
                    have HPb : Hid (0 ≤ num8 (prodI S R 19) ∧ num8 (prodI S R 19) < 256 ^ 40) := by
                      rw [HPv.out]
                      have ha := acc_in (rNum key) zs j
                      have hd := num8_in D HDB.out
                      have hr := num8_in R HRB.out
                      rw [HLD.out] at hd
                      rw [HRL.out, HRV.out] at hr
                      have hq16 : (256 : Int) ^ q ≤ 256 ^ 16 := by exact_mod_cast Nat.pow_le_pow_right (n := 256) (by decide) hLa
                      exact step_in ha.1 ha.2 hd.1 (by omega) (pow256_pos q) hq16 hr.1 hr.2
                    have HMv := mod_value (prodI S R 19) HDg.out (by rw [prodI_length]; exact Nat.le_refl _) HPb.out.1 HPb.out.2
                    have HMV : Hid (num8 (modOf (prodI S R 19)) = accTo (rNum key) zs (j + 1) ∧ Bytes (modOf (prodI S R 19)) ∧ (modOf (prodI S R 19)).length = 17) := by
                      refine ⟨?_, HMv.2⟩
                      rw [HMv.1, HPv.out, accTo, ← HDA.out, HLD.out]
                    clear hin HMv
                    go_wp2_with fail
                    refine (mod_any (prodI S R 19) 40 (prodI_length S R 19) HDg.out _ 40 W6 hownP.rd.2 (by decide)).mono ?_
                    rintro e w9 ⟨v9, rfl, hown9, hbel9⟩
                    have hb9 : Below WR.heap.size WR w9 := ((hbelA.trans (Hbel2.out.mono hsA)).trans (hbelP.mono (by omega))).trans (hbel9.mono (by omega))
                    go_wp2
                    go_roundw
                    case rel =>
                      repeat apply Exists.intro
                      refine ⟨⟨j + 1, modOf (prodI S R 19), ?_, by omega, hown9.mono (by omega), HMV.out.2.2, HMV.out.2.1, HMV.out.1, hb9⟩, ?_⟩
                      rotate_left
                      · rfl
                      · go_num
                    case measure => simp [intOf]; omega
              · have hq16 : (q : Int) < 16 := by omega
                have hend' : ¬ ((16 * (j : Int) + (q : Int)) < (m : Int)) := by omega
                clear hend h16
                go_wp2
                generalize wr.setCell ⟨gs, q, none⟩ (.int .i64 (z + 1)) = W5 at *
                have hgp : gs < wr.heap.size := t2
                obtain ⟨gp, hgpe⟩ : ∃ gp, gp = wr.heap.size := ⟨_, rfl⟩
                have HG : Hid (gp = W5.heap.size) := by show gp = _; rw [Hsz2.out]; exact hgpe
                rw [← hgpe] at hgp ⊢
                have hW5s : WA.heap.size ≤ gp := by have := Hbel2.out.size; have := HG.out; omega
                have HcS : Hid (∀ i, i < 19 → W5.cell? ⟨gs, i, none⟩ = some (.int .i64 (S.getD i 0))) := by
                  intro i hi
                  have h := Hown2.out.rd.2 i (by rw [HL2'.out]; exact hi)
                  obtain ⟨b', o', he, hcell⟩ := h
                  simp only [Option.some.injEq, Addr.mk.injEq, and_true] at he
                  obtain ⟨rfl, rfl⟩ := he
                  rw [Nat.zero_add] at hcell
                  exact hcell
                have HcR : Hid (∀ i, i < 16 → W5.cell? ⟨gr, i, none⟩ = some (.int .i64 (R.getD i 0))) := fun i hi => ((Hbel2.out.cell (p := ⟨gr, i, none⟩) (by show gr < _; omega)).trans (hbelA.cell (p := ⟨gr, i, none⟩) r2)).trans (HR.out i hi)
                clear t2 hgpe t1 hbel3 hown3
                go_loopw [97] (fun i wr => ∃ t : Nat, t ≤ 19 ∧ i = .int .i64 t ∧ Own .i64 3 gp wr (.slice (some ⟨gp, 0, none⟩) 40 40) (prodI S R t) ∧ Below gp W5 wr) (fun i _ => 19 - (intOf i).toNat)
                case atStart => exact ⟨0, by omega, rfl, Own.madeAt W5 gp 40 HG.out (Nat.le_refl _) (by decide), (Below.refl _ _).alloc (Nat.le_of_eq HG.out) _⟩
                case round =>
                  obtain ⟨t, ht, rfl, hownP, hbelP⟩ := hrel
                  obtain ⟨W6, rfl⟩ : ∃ X, X = wr := ⟨_, rfl⟩
                  have hs6 := hbelP.size
                  have hs6' : gp ≤ W6.heap.size := by have := HG.out; omega
                  by_cases ht19 : t < 19
                  · have cSt := (hbelP.cell (p := ⟨gs, t, none⟩) hgp).trans (HcS.out t ht19)
                    have bSt := HS2.out t
                    obtain ⟨d0, d1⟩ := bSt
                    have HIN : Hid (∀ u : Nat, t + u ≤ 40 → ∀ x, 0 ≤ (prodJ (prodI S R t) S R t u).getD x 0 ∧ (prodJ (prodI S R t) S R t u).getD x 0 ≤ 2084880 * t + 130305 * u) := prodJ_in t (prodI_length S R t) (prodI_in HS2.out HRB.out t (by omega)) HS2.out HRB.out
                    have HPI : Hid (prodI S R (t + 1) = prodJ (prodI S R t) S R t 16) := rfl
                    have HST : Hid (∀ u, prodJ (prodI S R t) S R t (u + 1) = (prodJ (prodI S R t) S R t u).set (t + u) ((prodJ (prodI S R t) S R t u).getD (t + u) 0 + S.getD t 0 * R.getD u 0)) := fun u => rfl
                    have HPL : Hid (∀ u, (prodJ (prodI S R t) S R t u).length = 40) := fun u => (prodJ_length _ S R t u).trans (prodI_length S R t)
                    have hown0 : Own .i64 3 gp W6 (.slice (some ⟨gp, 0, none⟩) 40 40) (prodJ (prodI S R t) S R t 0) := hownP
                    generalize S.getD t 0 = x at *
                    generalize hQ : prodJ (prodI S R t) S R t = Q at *
                    clear hQ hownP
                    go_wp2
                    go_loopw [104] (fun i wr => ∃ u : Nat, u ≤ 16 ∧ i = .int .i64 u ∧ Own .i64 3 gp wr (.slice (some ⟨gp, 0, none⟩) 40 40) (Q u) ∧ Below gp W5 wr) (fun i _ => 16 - (intOf i).toNat)
                    case atStart => exact ⟨0, by omega, rfl, hown0, hbelP⟩
                    case round =>
                      obtain ⟨u, hu, rfl, hownQ, hbelQ⟩ := hrel
                      by_cases hu16 : u < 16
                      · have cRu := (hbelQ.cell (p := ⟨gr, u, none⟩) (by show gr < _; omega)).trans (HcR.out u hu16)
                        have bRu := HRB.out u
                        have bQ := HIN.out u (by omega) (t + u)
                        have HSu := HST.out u
                        obtain ⟨gp', capp', hv', y1, y2, y3, y4, y5, y6⟩ := hownQ.held 40 (HPL.out u) (by decide)
                        simp only [Value.slice.injEq, Option.some.injEq, Addr.mk.injEq, and_true, true_and] at hv'
                        obtain ⟨rfl, rfl⟩ := hv'
                        have cQ := y5 (t + u) (by omega)
                        have fQ := y6 (t + u)
                        obtain ⟨e0, e1⟩ := bRu
                        obtain ⟨e2, e3⟩ := bQ
                        have hm0 : 0 ≤ x * R.getD u 0 := Int.mul_nonneg d0 e0
                        have hm1 : x * R.getD u 0 ≤ 130305 := by
                          have h := Int.mul_le_mul_of_nonneg_right d1 e0
                          omega
                        have HSU : Hid (Q (u + 1) = (Q u).set (t + u) ((Q u).getD (t + u) 0 + x * R.getD u 0)) := HSu
                        generalize R.getD u 0 = y at *
                        generalize (Q u).getD (t + u) 0 = p at *
                        clear y5 y6 HSu
                        go_wp2
                        go_roundw
                        case rel => exact ⟨u + 1, by omega, by go_num, by rw [HSU.out]; exact hownQ.set (t + u) (p + x * y), hbelQ.setCell (Nat.le_refl _) _⟩
                        case measure => simp [intOf]; omega
                      · obtain rfl : u = 16 := by omega
                        go_wp2
                        go_roundw
                        case rel => exact ⟨t + 1, by omega, by go_num, by rw [HPI.out]; exact hownQ, hbelQ⟩
                        case measure => simp [intOf]; omega
                  · obtain rfl : t = 19 := by omega
                    have hin := prodI_in HS2.out HRB.out 19 (by decide)
                    have HDg : Hid (Digits (prodI S R 19)) := fun i => by have := hin i; omega
                    have HPv : Hid (num8 (prodI S R 19) = (accTo (rNum key) zs j + (num8 D + 256 ^ q)) * rNum key) := by
                      show _ = _
                      rw [prodI_value S R HRL.out 19 (by rw [HL2'.out]; exact Nat.le_refl _) (by decide), List.take_of_length_le (by rw [HL2'.out]; exact Nat.le_refl _), HV2.out, HRV.out]
                    have HPb : Hid (0 ≤ num8 (prodI S R 19) ∧ num8 (prodI S R 19) < 256 ^ 40) := by
                      rw [HPv.out]
                      have ha := acc_in (rNum key) zs j
                      have hd := num8_in D HDB.out
                      have hr := num8_in R HRB.out
                      rw [HLD.out] at hd
                      rw [HRL.out, HRV.out] at hr
                      have hq16 : (256 : Int) ^ q ≤ 256 ^ 16 := by exact_mod_cast Nat.pow_le_pow_right (n := 256) (by decide) hLa
                      exact step_in ha.1 ha.2 hd.1 (by omega) (pow256_pos q) hq16 hr.1 hr.2
                    have HMv := mod_value (prodI S R 19) HDg.out (by rw [prodI_length]; exact Nat.le_refl _) HPb.out.1 HPb.out.2
                    have HMV : Hid (num8 (modOf (prodI S R 19)) = accTo (rNum key) zs (j + 1) ∧ Bytes (modOf (prodI S R 19)) ∧ (modOf (prodI S R 19)).length = 17) := by
                      refine ⟨?_, HMv.2⟩
                      rw [HMv.1, HPv.out, accTo, ← HDA.out, HLD.out]
                    clear hin HMv
                    go_wp2_with fail
                    refine (mod_any (prodI S R 19) 40 (prodI_length S R 19) HDg.out _ 40 W6 hownP.rd.2 (by decide)).mono ?_
                    rintro e w9 ⟨v9, rfl, hown9, hbel9⟩
                    have hb9 : Below WR.heap.size WR w9 := ((hbelA.trans (Hbel2.out.mono hsA)).trans (hbelP.mono (by omega))).trans (hbel9.mono (by omega))
                    go_wp2
                    go_roundw
                    case rel =>
                      repeat apply Exists.intro
                      refine ⟨⟨j + 1, modOf (prodI S R 19), ?_, by omega, hown9.mono (by omega), HMV.out.2.2, HMV.out.2.1, HMV.out.1, hb9⟩, ?_⟩
                      rotate_left
                      · rfl
                      · go_num
                    case measure => simp [intOf]; omega
        · have hjm : j = (m + 15) / 16 := by omega
          have HJ : Hid (j = (m + 15) / 16) := hjm
          have hge : ¬ (((16 * j : Nat) : Int) < (m : Int)) := by omega
          have HKD : Hid (Bytes (key.drop 16)) := bytes_drop hkb 16
          have HKL' : Hid ((key.drop 16).length = 16) := by
            have h := List.length_drop (i := 16) (l := key)
            rw [HKL.out] at h
            exact h
          have HAb : Hid (∀ i, 0 ≤ A.getD i 0 ∧ A.getD i 0 ≤ 255) := hAb
          clear hjm hAb
          go_wp2
          go_loopw [17] (fun i wr => ∃ q : Nat, q ≤ 16 ∧ i = .int .i64 q ∧ Own .i64 3 WR.heap.size wr (.slice (some ⟨gA, 0, none⟩) 17 capA) (addTo A (key.drop 16) q) ∧ Below WR.heap.size WR wr) (fun i _ => 16 - (intOf i).toNat)
          case atStart => exact ⟨0, by omega, rfl, hownA, hbelA⟩
          case round =>
            obtain ⟨q, hq, rfl, hownS, hbelS⟩ := hrel
            have hal : (addTo A (key.drop 16) q).length = 17 := by rw [addTo_length, HAl.out]
            have HAL : Hid ((addTo A (key.drop 16) q).length = 17) := hal
            have hsS := hbelS.size
            by_cases hq16 : q < 16
            · obtain ⟨gs', caps', hv', t1, t2, t3, t4, t5, t6⟩ := hownS.held 17 hal (by decide)
              simp only [Value.slice.injEq, Option.some.injEq, Addr.mk.injEq, and_true, true_and] at hv'
              obtain ⟨rfl, rfl⟩ := hv'
              have cS := t5 q (by omega)
              have fS := t6 q
              have cz : wr.cell? ⟨w.heap.size, 16 + q, none⟩ = some (.int .u8 ((key.drop 16).getD q 0)) := by
                rw [hbelS.cell (p := ⟨w.heap.size, 16 + q, none⟩) (by show w.heap.size < _; omega), hbel.cell (p := ⟨w.heap.size, 16 + q, none⟩) (by show w.heap.size < _; omega), World.cell?_alloc_past _ _ _ (by simp), World.cell?_alloc_at _ _ _ _ rfl, Iv_get .u8 key (16 + q) (by rw [HKL.out]; omega)]
                simp [List.getD_eq_getElem?_getD, List.getElem?_drop, show 16 + q < key.length by rw [HKL.out]; omega]
              have bz := HKD.out q
              have bS := HAb.out q
              rw [addTo_past _ _ q q (Nat.le_refl _) (by rw [HAl.out]; omega)] at cS
              have HST : Hid (addTo A (key.drop 16) (q + 1) = (addTo A (key.drop 16) q).set q (A.getD q 0 + (key.drop 16).getD q 0)) := by
                show _ = _
                rw [addTo, addTo_past _ _ q q (Nat.le_refl _) (by rw [HAl.out]; omega)]
              obtain ⟨p0, p1⟩ := bz
              obtain ⟨p2, p3⟩ := bS
              generalize (key.drop 16).getD q 0 = x at *
              generalize A.getD q 0 = y at *
              clear t5 t6 hal
              go_wp2
              refine wp_region_head 11 mixedS (by kernel_rfl) ?_
              simp only [List.take_succ_cons, List.take_zero, List.drop_succ_cons, List.drop_zero]
              repeat (go_big_quiet_step (fail))
              refine wpQuiet_nil ?_
              go_wp2
              go_roundw
              case rel => exact ⟨q + 1, by omega, by go_num, by rw [HST.out]; exact (Own.set (w := wr.drew) hownS q (y + x)), hbelS.drew.setCell (by exact t1) _⟩
              case measure => simp [intOf]; omega
            · obtain rfl : q = 16 := by omega
              have hdin := addTo_in (B := 255) (by decide) HAb.out HKD.out 16 (by rw [HAl.out]; decide)
              have HDg : Hid (Digits (addTo A (key.drop 16) 16)) := fun i => by have := hdin i; omega
              have HTG : Hid (carry (addTo A (key.drop 16) 16) 16 = tagOf key zs) := by
                show _ = _
                rw [carry_tag _ HDg.out (by rw [HAL.out]; decide), addTo_value _ _ 16 (by rw [HAl.out]; decide) (by rw [HKL'.out]; exact Nat.le_refl _), sNum_value key hkb HKL.out, HAv.out, HJ.out, tagOf, HM.out]
              generalize addTo A (key.drop 16) 16 = F at *
              clear hdin hal
              obtain ⟨W7, rfl⟩ : ∃ X, X = wr := ⟨_, rfl⟩
              go_wp2_with fail
              have hrd : Rd (W7.alloc (.cells (Iv .u8 (List.replicate 16 0)) 24)) (some ⟨gA, 0, none⟩) F := by
                have h : Own .i64 3 WR.heap.size (W7.alloc (.cells (Iv .u8 (List.replicate 16 0)) 24)) (.slice (some ⟨gA, 0, none⟩) 17 capA) F := World.ownsRow.alloc hownS _
                exact h.rd.2
              refine (carry_at F 17 16 16 rfl HAL.out HDg.out (by decide) _ capA (W7.alloc (.cells (Iv .u8 (List.replicate 16 0)) 24)) hrd (by decide)).mono ?_
              rintro e w8 ⟨v8, rfl, hown8, hbel8⟩
              rw [HTG.out] at hown8
              have HTl : Hid ((tagOf key zs).length = 16) := by show _ = _; simp [tagOf, bytes16]
              have HTb : Hid (Bytes (tagOf key zs)) := bytes16_bytes _
              obtain ⟨gd, capd, rfl, y1, y2, y3, y4, y5, y6⟩ := hown8.held 16 HTl.out (by decide)
              have hs8 := hbel8.size
              have hs8' : W7.heap.size + 1 ≤ w8.heap.size := by simpa using hs8
              have y1' : W7.heap.size + 1 ≤ gd := by simpa using y1
              have hgo : w8.heap[W7.heap.size]? = some (.cells (Iv .u8 (List.replicate 16 0)) 24) := by
                rw [hbel8.block _ (by simp)]
                exact heap_alloc_new _ _
              have hbR : Below WR.heap.size WR w8 := (hbelS.alloc hsS _).trans (hbel8.mono (by simp; omega))
              have hres : w8.heap[w.heap.size + 1]? = some (.cells (Iv .u8 (List.replicate 16 0)) 24) := by
                rw [hbR.block _ (by omega), hbel.block _ (by omega)]
                simp only [heapAt, World.size_alloc]
                simp
              have hbw8 : Below w.heap.size w w8 := ((((Below.refl w.heap.size w).alloc (by simp) _).alloc (by simp) _).trans (hbel.mono (by omega))).trans (hbR.mono (by omega))
              have HY : Hid (∀ i, i < 16 → w8.cell? ⟨gd, i, none⟩ = some (.int .i64 ((tagOf key zs).getD i 0))) := y5
              generalize hT : tagOf key zs = T at *
              have HT : Hid (tagOf key zs = T) := hT
              clear y5 y6 hown8 hrd hs8 y1 hownS hT
              go_wp2
              go_loopw [143] (fun i wr => ∃ t : Nat, t ≤ 16 ∧ i = .int .i64 t ∧ wr = w8.setRow W7.heap.size (Iv .u8 (T.take t ++ List.replicate (16 - t) 0))) (fun i _ => 16 - (intOf i).toNat)
              case atStart =>
                refine ⟨0, by omega, rfl, ?_⟩
                rw [fill_start, setRow_self _ _ _ _ _ hgo]
              case round =>
                obtain ⟨t, ht, rfl, rfl⟩ := hrel
                by_cases ht16 : t < 16
                · have ct : (w8.setRow W7.heap.size (Iv .u8 (T.take t ++ List.replicate (16 - t) 0))).cell? ⟨gd, t, none⟩ = some (.int .i64 (T.getD t 0)) := by
                    rw [cell_setRow_far _ _ _ _ (by show gd ≠ _; omega)]
                    exact HY.out t ht16
                  have co : ∃ v, (w8.setRow W7.heap.size (Iv .u8 (T.take t ++ List.replicate (16 - t) 0))).cell? ⟨W7.heap.size, t, none⟩ = some v := by
                    rw [cell_setRow_same _ _ _ _ _ _ _ hgo]
                    exact Iv_some _ _ _ (by rw [List.length_append, List.length_take, HTl.out, List.length_replicate]; omega)
                  obtain ⟨vo, hvo⟩ := co
                  have fo : (w8.setRow W7.heap.size (Iv .u8 (T.take t ++ List.replicate (16 - t) 0))).frozen? ⟨W7.heap.size, t, none⟩ = false := by rw [frozen_setRow]; exact frozen_of_row _ _ _ _ _ hgo
                  have bt := HTb.out t
                  obtain ⟨z0, z1⟩ := bt
                  have HFS : Hid ((T.take t ++ List.replicate (16 - t) 0).set t (T.getD t 0) = T.take (t + 1) ++ List.replicate (16 - (t + 1)) 0) := by
                    have h := set_fill T 16 t HTl.out ht16 0
                    have hg : T.getD t 0 = T[t]'(by rw [HTl.out]; exact ht16) := by simp [show t < T.length by rw [HTl.out]; exact ht16]
                    rw [hg]
                    exact h
                  generalize T.getD t 0 = x at *
                  go_wp2
                  go_roundw
                  case rel => exact ⟨t + 1, by omega, by go_num, by rw [setCell_setRow, Iv_set, HFS.out]⟩
                  case measure => simp [intOf]; omega
                · obtain rfl : t = 16 := by omega
                  rw [fill_end T 16 HTl.out]
                  have hit : (Try.prog.info? 24).map (·.size) = some (Iv .u8 T).size := by rw [Iv_size, HTl.out]; exact infoS24
                  have hg1 : (w8.setRow W7.heap.size (Iv .u8 T)).heap[W7.heap.size]? = some (.cells (Iv .u8 T) 24) := setRow_heap _ _ _ _ _ _ hgo
                  have hg2 : (w8.setRow W7.heap.size (Iv .u8 T)).heap[w.heap.size + 1]? = some (.cells (Iv .u8 (List.replicate 16 0)) 24) := by
                    rw [setRow_far _ _ _ _ (by omega)]
                    exact hres
                  have hsz16 : (Iv .u8 (List.replicate 16 0)).size = (Iv .u8 T).size := by rw [Iv_size, Iv_size, HTl.out, List.length_replicate]
                  have hbf := below_setRow hbw8 W7.heap.size (by omega) (Iv .u8 T)
                  generalize w8.setRow W7.heap.size (Iv .u8 T) = W9 at *
                  have HSZ : Hid ((Iv .u8 (List.replicate 16 0)).size = (Iv .u8 T).size) := hsz16
                  clear hsz16
                  go_wp2_with (first | refine wpList_load_row rfl 24 _ rfl _ rfl _ (Iv .u8 T) _ _ hg1 Try.underlying24 rfl hit ?_ | refine wpList_store_row rfl 24 _ _ rfl _ (Iv .u8 T) rfl rfl _ _ hg2 hit HSZ.out (Iv_one _ _) ?_)
                  refine wpRet (cs := Iv .u8 T) Try.results4 ?_ (setRow_heap _ _ _ _ _ _ hg2) Try.underlying24 hit ?_
                  · rfl
                  · exact ⟨by rw [HT.out], below_setRow hbf _ (by omega) _⟩
end Go.Proofs.Ytbfjnepmhbnnjaa
