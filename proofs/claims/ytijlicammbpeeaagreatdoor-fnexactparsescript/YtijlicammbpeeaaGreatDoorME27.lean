import Derived.Test.YtijlicammbpeeaaGreatDoorME26
import Derived.Test.YtijlicammbpeeaaGreatDoorME08
import Derived.Test.YtijlicammbpeeaaGreatDoorME22
/- The program's pairs of digits: 'bytesOfHex'. -/
namespace Go.Proofs.YtijlicammbpeeaaGreatDoor
open Go.RowKit
set_option linter.unusedVariables false
set_option linter.unusedSimpArgs false
def hexB : List UInt8 := [48, 49, 50, 51, 52, 53, 54, 55, 56, 57, 97, 98, 99, 100, 101, 102]
theorem digF_index (c : UInt8) : ∀ (l : List UInt8) (k : Int), 0 ≤ k → digF c.toNat (ub l) k = (if Lib.indexByte l c = -1 then -1 else Lib.indexByte l c + k)
  | [], k, _ => by simp [ub, digF, Lib.indexByte]
  | b :: l, k, hk => by
    have hge := Lib.indexByte_ge l c
    simp only [ub, List.map_cons, digF, Lib.indexByte]
    by_cases h : b = c
    · subst h
      simp
    · have h1 : ¬ (c.toNat : Int) = (b.toNat : Int) := fun e => h (UInt8.toNat_inj.1 (by omega))
      have ih := digF_index c l (k + 1) (by omega)
      unfold ub at ih
      rw [if_neg h1, ih]
      by_cases h2 : Lib.indexByte l c = -1
      · simp [h, h2]
      · simp only [beq_iff_eq, h, h2, if_false, Bool.false_eq_true]
        rw [if_neg (by omega)]
        omega
theorem index_dig (c : UInt8) : Lib.indexByte hexB c = dig c.toNat := by
  have := digF_index c hexB 0 (by decide)
  have e : ub hexB = digsL := rfl
  rw [e] at this
  rw [dig, this]
  by_cases h : Lib.indexByte hexB c = -1
  · rw [if_pos h, h]
  · rw [if_neg h]; omega
theorem indexByte_any (c : UInt8) (w : World) : Calls Tryz.prog 61 #[.string ⟨#[48, 49, 50, 51, 52, 53, 54, 55, 56, 57, 97, 98, 99, 100, 101, 102]⟩, .int .u8 c.toNat] w fun e w' => e = .returned (.int .i64 (dig c.toNat)) ∧ w' = w := by
  have := strings_IndexByte ⟨#[48, 49, 50, 51, 52, 53, 54, 55, 56, 57, 97, 98, 99, 100, 101, 102]⟩ c.toNat w
  have e : Lib.indexByte (ByteArray.mk #[48, 49, 50, 51, 52, 53, 54, 55, 56, 57, 97, 98, 99, 100, 101, 102]).data.toList ((c.toNat : Int).toNat.toUInt8) = dig c.toNat := by
    have h : ((c.toNat : Int).toNat.toUInt8) = c := by simp
    rw [h]
    exact index_dig c
  rw [e] at this
  exact this
theorem quietMul2 {ops : Array Oper} {C : World → Prop} {Q : Act → Prop} {a : Act} {o : Oper} {rest : List Oper} (hgd : o.guard = none) (x y : Operand) (tz : TypeId) (ho : o.op = .binOp .mul 3 x y tz) (l m r : Int) (hx : a.eval x = .int .i64 l) (hy : a.eval y = .int .i64 m) (hr : l * m = r) (hb : 0 ≤ r ∧ r ≤ 9223372036854775807) (h : wpQuiet Tryz.prog ops C Q rest (a.put o.dst (.int .i64 r))) : wpQuiet Tryz.prog ops C Q (o :: rest) a := by
  refine quietVal hgd (.int .i64 r) (fun w => ?_) h
  subst hr
  unfold execOp
  simp only [ho, hx, hy]
  have e : IntKind.i64.wrap (l * m) = l * m := by rw [IntKind.wrap_i64]; omega
  simp [go_sem, Tryz.underlying3, e]
theorem ub_getD (l : List UInt8) (i : Nat) : (ub l).getD i 0 = ((l.getD i 0).toNat : Int) := by
  simp only [ub, List.getD_eq_getElem?_getD, List.getElem?_map]
  cases l[i]? <;> rfl
theorem or_dig (a b : Int) (ha : 0 ≤ a ∧ a ≤ 15) (hb : 0 ≤ b ∧ b ≤ 15) : bits BinOp.or IntKind.i64 (a * 16) b % 256 = 16 * a + b := by
  have h : ∀ x y : Fin 16, bits BinOp.or IntKind.i64 ((x.val : Int) * 16) (y.val : Int) % 256 = 16 * (x.val : Int) + (y.val : Int) := by decide +kernel
  have := h ⟨a.toNat, by omega⟩ ⟨b.toNat, by omega⟩
  simp only [] at this
  rwa [show ((a.toNat : Nat) : Int) = a by omega, show ((b.toNat : Nat) : Int) = b by omega] at this
theorem infoU1 : (Tryz.prog.info? 5).map (·.size) = some 1 := by kernel_rfl
set_option maxRecDepth 10000 in
set_option maxHeartbeats 4000000 in
theorem bytesOfHex_any (s : List UInt8) (n : Nat) (hn : s.length = n) (hn2 : n ≤ 1048576) (w : World) :
    Calls Tryz.prog 49 #[.string ⟨s.toArray⟩] w fun e w' => Below w.heap.size w w' ∧ ((∃ p x, pairsM (ub s) = some p ∧ e = .returned (.tuple #[x, .bool true]) ∧ OwnM w.heap.size w' x p) ∨ (pairsM (ub s) = none ∧ e = .returned (.tuple #[.slice none 0 0, .bool false]))) := by
  have hsz : (ByteArray.mk s.toArray).size = n := by rw [← hn]; show s.toArray.size = _; simp
  have HN : Hid _ := hn
  have HU : Hid ((ub s).length = n) := by show _ = _; rw [ub_length, hn]
  clear hn
  by_cases hodd : n % 2 = 0
  · obtain ⟨m, hnm⟩ : ∃ m, n = 2 * m := ⟨n / 2, by omega⟩
    have HM : Hid _ := hnm
    have hm : Hid ((ub s).length / 2 = m) := by show _ = _; rw [HU.out]; omega
    have hz : ((n : Int)).tmod 2 = 0 := by rw [Int.tmod_eq_emod_of_nonneg (by omega)]; omega
    have hd : ((n : Int)).tdiv 2 = (m : Int) := by rw [Int.tdiv_eq_ediv_of_nonneg (by omega)]; omega
    have hm1 : m ≤ 600000 := by omega
    clear hnm
    have F0 : Hid _ := (Rn.start w).alloc (Iv .u8 (zeroL m)) 5
    have hmk := make_ints (P := Tryz.prog) 22 5 .u8 1 m Tryz.underlying22 infoU8 (by omega) (by omega)
    go_enter Tryz.func49, Tryz.ntmps49
    go_wp2
    go_loopw [18] (fun i wr => ∃ k : Nat, k ≤ m ∧ i = .int .i64 k ∧ (∀ j, j < k → okP (ub s) j) ∧ Rn w [(w.heap.size, Iv .u8 (pvs (ub s) k ++ zeroL (m - k)), 5)] wr) (fun i _ => m - (intOf i).toNat)
    case atStart => exact ⟨0, Nat.zero_le _, rfl, fun j h => absurd h (Nat.not_lt_zero _), F0.out⟩
    case round =>
      obtain ⟨k, hk, rfl, hok, hF⟩ := hrel
      have HF : Hid _ := hF
      have HK : Hid _ := hok
      clear hF hok F0 hmk
      by_cases hlt : k < m
      · obtain ⟨z1, e1⟩ : ∃ z, s.getD (2 * k) 0 = z := ⟨_, rfl⟩
        obtain ⟨z2, e2⟩ : ∃ z, s.getD (2 * k + 1) 0 = z := ⟨_, rfl⟩
        have E1 : Hid _ := e1
        have E2 : Hid _ := e2
        have U1 : Hid ((ub s).getD (2 * k) 0 = z1.toNat) := by show _ = _; rw [ub_getD, e1]
        have U2 : Hid ((ub s).getD (2 * k + 1) 0 = z2.toNat) := by show _ = _; rw [ub_getD, e2]
        clear e1 e2
        go_wp2_with fail
        refine wp_region_bel wr.heap.size wr mixedPs (by kernel_rfl) (Below.refl _ _) ?_
        refine quietVal rfl (.string ⟨s.toArray⟩) (fun w' => by kernel_rfl) ?_
        simp only [Act.put, List.setIfInBounds_toArray, List.set_cons_succ, List.set_cons_zero]
        refine quietVal rfl (.int .i64 k) (fun w' => by kernel_rfl) ?_
        simp only [Act.put, List.setIfInBounds_toArray, List.set_cons_succ, List.set_cons_zero]
        refine quietMul2 rfl _ _ _ rfl 2 (k : Int) ((2 * k : Nat) : Int) rfl rfl (by omega) (by omega) ?_
        simp only [Act.put, List.setIfInBounds_toArray, List.set_cons_succ, List.set_cons_zero]
        refine quietIdx rfl _ _ rfl s (2 * k) (by rw [HN.out, HM.out]; omega) rfl rfl ?_
        simp only [Act.put, List.setIfInBounds_toArray, List.set_cons_succ, List.set_cons_zero]
        rw [E1.out]
        refine wpQuiet_call rfl 61 #[.string ⟨#[48, 49, 50, 51, 52, 53, 54, 55, 56, 57, 97, 98, 99, 100, 101, 102]⟩, .int .u8 z1.toNat] (.int .i64 (dig z1.toNat)) (fun w' => by kernel_rfl) (fun v ⟨x, e⟩ => by subst e; exact (indexByte_any z1 x.w).mono (fun e w' ⟨h1, h2⟩ => ⟨h1, x, h2⟩)) ?_
        simp only [Act.put, List.setIfInBounds_toArray, List.set_cons_succ, List.set_cons_zero]
        refine quietVal rfl (.string ⟨s.toArray⟩) (fun w' => by kernel_rfl) ?_
        simp only [Act.put, List.setIfInBounds_toArray, List.set_cons_succ, List.set_cons_zero]
        refine quietVal rfl (.int .i64 k) (fun w' => by kernel_rfl) ?_
        simp only [Act.put, List.setIfInBounds_toArray, List.set_cons_succ, List.set_cons_zero]
        refine quietMul2 rfl _ _ _ rfl 2 (k : Int) ((2 * k : Nat) : Int) rfl rfl (by omega) (by omega) ?_
        simp only [Act.put, List.setIfInBounds_toArray, List.set_cons_succ, List.set_cons_zero]
        refine quietAdd rfl _ _ _ rfl ((2 * k : Nat) : Int) 1 ((2 * k + 1 : Nat) : Int) rfl rfl (by omega) (by omega) ?_
        simp only [Act.put, List.setIfInBounds_toArray, List.set_cons_succ, List.set_cons_zero]
        refine quietIdx rfl _ _ rfl s (2 * k + 1) (by rw [HN.out, HM.out]; omega) rfl rfl ?_
        simp only [Act.put, List.setIfInBounds_toArray, List.set_cons_succ, List.set_cons_zero]
        rw [E2.out]
        refine wpQuiet_call rfl 61 #[.string ⟨#[48, 49, 50, 51, 52, 53, 54, 55, 56, 57, 97, 98, 99, 100, 101, 102]⟩, .int .u8 z2.toNat] (.int .i64 (dig z2.toNat)) (fun w' => by kernel_rfl) (fun v ⟨x, e⟩ => by subst e; exact (indexByte_any z2 x.w).mono (fun e w' ⟨h1, h2⟩ => ⟨h1, x, h2⟩)) ?_
        simp only [Act.put, List.setIfInBounds_toArray, List.set_cons_succ, List.set_cons_zero]
        refine quietVal rfl (.int .i64 (dig z1.toNat)) (fun w' => by kernel_rfl) ?_
        simp only [Act.put, List.setIfInBounds_toArray, List.set_cons_succ, List.set_cons_zero]
        refine quietVal rfl (.int .i64 (dig z2.toNat)) (fun w' => by kernel_rfl) ?_
        simp only [Act.put, List.setIfInBounds_toArray, List.set_cons_succ, List.set_cons_zero]
        refine wpQuiet_nil ?_
        intro w2 hb2
        have HF2 : Hid _ := HF.out.later hb2 (Nat.le_refl _)
        clear hb2 HF
        have r1 := dig_range (z1.toNat : Int)
        have r2 := dig_range (z2.toNat : Int)
        obtain ⟨d1, f1⟩ : ∃ z, dig (z1.toNat : Int) = z := ⟨_, rfl⟩
        obtain ⟨d2, f2⟩ : ∃ z, dig (z2.toNat : Int) = z := ⟨_, rfl⟩
        have F1 : Hid _ := f1
        have F2 : Hid _ := f2
        rw [f1] at r1 ⊢
        rw [f2] at r2 ⊢
        clear f1 f2
        by_cases h1 : d1 < 0
        · go_wp2
          go_ret2
          refine ⟨HF2.out.bel, .inr ⟨?_, rfl⟩⟩
          rw [pairsM, if_neg]
          intro h
          have := (h.2 k (by rw [hm.out]; exact hlt)).1
          rw [U1.out, F1.out] at this
          omega
        · by_cases h2 : d2 < 0
          · go_wp2
            go_ret2
            refine ⟨HF2.out.bel, .inr ⟨?_, rfl⟩⟩
            rw [pairsM, if_neg]
            intro h
            have := (h.2 k (by rw [hm.out]; exact hlt)).2
            rw [U2.out, F2.out] at this
            omega
          · have z9 : Hid (w2.heap[w.heap.size]? = some (.cells (Iv .u8 (pvs (ub s) k ++ zeroL (m - k))) 5)) := HF2.out.at (.head _)
            have hor : Hid _ := congrArg (Value.int IntKind.u8) (or_dig d1 d2 (by omega) (by omega))
            have hnew : Hid ((pvs (ub s) k ++ zeroL (m - k)).set k (16 * d1 + d2) = pvs (ub s) (k + 1) ++ zeroL (m - (k + 1))) := by
              show _ = _
              rw [pvs_snoc, pv, U1.out, U2.out, F1.out, F2.out, show m - k = (m - (k + 1)) + 1 by omega, zeroL, List.replicate_succ, List.append_assoc]
              exact set_at _ _ _ _ k (pvs_length _ _)
            have hil : Hid (k < (pvs (ub s) k ++ zeroL (m - k)).length) := by show _ < _; rw [List.length_append, pvs_length]; simp [zeroL]; omega
            go_wp2_with (with_reducible refine aSt ?_; refine stop_here ?_)
            refine hid_mk ?_
            refine wpList_put_cell rfl 5 _ _ rfl .u8 w.heap.size k (16 * d1 + d2) rfl hor.out _ _ z9.out infoU1 hil.out _ hnew.out ?_
            intro w3 hP3
            have HF3 : Hid _ := HF2.out.put hP3
            clear hP3 HF2 z9 hor
            go_wp2
            go_roundw
            case rel =>
              refine ⟨k + 1, by omega, by go_num, ?_, HF3.out⟩
              intro j hj
              by_cases hjk : j = k
              · subst hjk
                unfold okP
                rw [U1.out, U2.out, F1.out, F2.out]
                omega
              · exact HK.out j (by omega)
            case measure => simp [intOf]; omega
      · obtain rfl : m = k := by omega
        go_wp2
        go_ret2
        refine ⟨HF.out.bel, .inl ⟨pvs (ub s) m, _, ?_, rfl, ?_⟩⟩
        · rw [pairsM, if_pos ⟨by rw [HU.out, HM.out]; omega, by rw [hm.out]; exact HK.out⟩, hm.out]
        · have := HF.out.at (.head _)
          rw [Nat.sub_self] at this
          have e : pvs (ub s) m ++ zeroL 0 = pvs (ub s) m := by simp [zeroL]
          rw [e] at this
          have hl := pvs_length (ub s) m
          refine ⟨w.heap.size, m, Iv .u8 (pvs (ub s) m), (0, 0), by rw [hl]; rfl, Nat.le_refl _, this, fun j _ h => by omega, by rw [hl]; exact Nat.le_refl _, by omega, by rw [Iv_size, hl], ?_⟩
          simp only [Iv, iv]
          exact List.take_of_length_le (by simp)
  · have hz : ((n : Int).tmod 2 = 0) = False := by rw [Int.tmod_eq_emod_of_nonneg (by omega)]; simp; omega
    go_enter Tryz.func49, Tryz.ntmps49
    go_wp2
    go_ret2
    refine ⟨Below.refl _ _, .inr ⟨?_, rfl⟩⟩
    rw [pairsM, if_neg]
    intro h
    rw [HU.out] at h
    exact hodd h.1
end Go.Proofs.YtijlicammbpeeaaGreatDoor
