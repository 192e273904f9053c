/- The walk of FnLimiter. Written by mk_LmC.py. -/
import Derived.Test.YtcjbenmbenkcpaaLmE
import Derived.Test.YtcjbenmbenkcpaaFQ
import Derived.Test.YtcjbenmbenkcpaaNQ
import Derived.Deep.CutBlock
import Derived.Deep.DeepCutAuto
namespace Go.Proofs.Ytcjbenmbenkcpaa
open Go.RowKit
set_option linter.unusedVariables false
theorem cpB_run (W : World) (ge : Nat) (v5 : Value) (bs : List Bk) (hB : BR W v5 bs) (hge : W.heap[ge]? = some (.cells #[] 37)) (hn : bs.length ≤ 1100000) (ty : TypeId) :
    ∃ v' W' a' cap', (Builtin.append_ #[26, 26] ty #[.slice (some ⟨ge, 0, none⟩) 0 0, v5]).run Try.prog W = .ok v' W' ∧ v' = .slice a' bs.length cap' ∧ HB W' a' bs ∧ W.grownBy W' (some ge) := by
  obtain ⟨i, hi, hz, hsz, hby⟩ := infoBk
  have hown : W.ownsRow 0 37 11 (.slice (some ⟨ge, 0, none⟩) 0 0) 0 [] := ⟨by simp, .inr ⟨ge, 0, #[], rfl, Nat.zero_le _, hge, Nat.le_refl _, Nat.zero_le _, rfl, by simp⟩⟩
  rcases hB with ⟨rfl, rfl⟩ | ⟨g, cap, cur, rfl, h2, h3⟩
  · refine ⟨.slice (some ⟨ge, 0, none⟩) 0 0, W, some ⟨ge, 0, none⟩, 0, ?_, rfl, HB.nil _ _, ⟨rfl, rfl, rfl, Nat.le_refl _, fun _ _ _ => rfl⟩⟩
    simp [Builtin.append_, run_underlying Try.underlying26, Go.sizeOf, typeInfo, hi, Builtin.lenOf, Builtin.firstCells, loadCells, loadCellsFrom, storeCells, Result.andThen]
  · obtain ⟨v', W', hr, ho, hg, _⟩ := run_append_own (P := Try.prog) W 0 26 ty 37 i _ 11 32 Try.underlying26 hi hz hsz hby rfl (by decide) _ 0 [] hown ⟨g, 0, none⟩ bs.length cap (flatB bs) (flatB_length bs) (fun j u hj => by
      have e2 : (⟨g, 0, none⟩ : Addr).add j = ⟨g, j, none⟩ := by unfold Addr.add; split <;> simp_all
      rw [e2, cell_of_row _ _ _ _ _ _ h2]
      rw [← h3, List.getElem?_take] at hj
      split at hj
      · simpa using hj
      · cases hj) (fun u hu => by
      unfold flatB at hu
      obtain ⟨b, _, hb⟩ := List.mem_flatMap.1 hu
      exact List.all_eq_true.1 (bkL_one b) u hb) (by unfold maxLen; omega) (by omega) (Nat.zero_le _)
    have hO : OwnB W' 0 v' bs := by simpa [OwnB] using ho
    obtain ⟨a', cap', hv, _⟩ := hO.shape
    exact ⟨v', W', a', cap', hr, hv, hO.reads hv, hg⟩
theorem run_cellS {P : Program} {o : Oper} {ρ : Operand → Value} (t : TypeId) (x : Operand) (ho : o.op = .load t x) (p : Addr) (hx : ρ x = .pointer (some p)) {e : TypeId} (ht : P.underlying t = some (.slice e)) (v : Value) (w : World) (hc : w.cell? p = some v) :
    (execOp ρ o).run P w = .ok (.value v) w := by
  unfold execOp
  simp only [ho, hx, Instr.loadAt, Instr.sureAddr, loadVar, isAgg, run_underlying ht, Sem.run_bind, Sem.run_pure, Result.andThen_ok]
  simp [hc]
theorem Rn.keptNe {w W W' : World} {R : List (Nat × Array Value × TypeId)} {g : Nat} (h : Rn w R W) (hg : W.grownBy W' (some g)) (hR : ∀ r ∈ R, r.1 ≠ g) (hw : w.heap.size ≤ g) : Rn w R W' := by
  refine ⟨⟨h.rw.bel.grown hg h.rw.size (fun k e => by cases e; exact hw), fun r hr => ?_⟩, h.nd⟩
  obtain ⟨h1, h2, h3⟩ := h.rw.row r hr
  exact ⟨h1, Nat.lt_of_lt_of_le h2 hg.size, (hg.block _ h2 (fun e => hR r hr (by injection e))).trans h3⟩
theorem wpList_append_anyL {P : Program} {ops : Array Oper} {rest : List Oper} {o : Oper} {a : Act} {w : World} {Q : Exit → Act → World → Prop} (hgd : o.guard = none) (s x : Operand) (t : TypeId)
    (ho : o.op = .call { callee := .builtin .append, args := #[s, x], argTypes := #[t, t] }) (v u : Value) (hs : a.eval s = v) (hx : a.eval x = u) (v' : Value) (w' : World)
    (hr : (Builtin.append_ #[t, t] o.type #[v, u]).run P w = .ok v' w') (h : wpList P ops Q rest (a.put o.dst v') w') : wpList P ops Q (o :: rest) a w :=
  wpList_plain hgd fun _ hK => by
    unfold Oper.wp execOp
    simp only [ho, resolve, invoke, builtin, Sem.run_bind, Sem.run_pure, Result.andThen_ok, List.map_toArray, List.map_cons, List.map_nil, hs, hx, hr]
    exact hK _ _ h
section
variable {P : Program} {ops : Array Oper} {Q : Exit → Act → World → Prop} {S1 : World → Prop} {T0 : Tr} {a : Act} {w : World}
theorem sh7 {α0 α1 α2 α3 α4 α5 α6 : Type} (T : Tr) (Fa : α0 → α1 → α2 → α3 → α4 → α5 → α6 → World → Prop) (F : α0 → α1 → α2 → α3 → α4 → α5 → α6 → Act) (hm : Hid (∀ x0 x1 x2 x3 x4 x5 x6 w', Fa x0 x1 x2 x3 x4 x5 x6 w' → wpTr P ops Q S1 T (F x0 x1 x2 x3 x4 x5 x6) w') → wpTr P ops Q S1 T0 a w) (hc : ∀ x0 x1 x2 x3 x4 x5 x6 w', Fa x0 x1 x2 x3 x4 x5 x6 w' → wpTr P ops Q S1 T (F x0 x1 x2 x3 x4 x5 x6) w') : wpTr P ops Q S1 T0 a w := hm hc
end
/-- What holds ahead of each call. -/
def LInv (w : World) (gs : Nat) (a : Option Addr) (n c g5 : Nat) (M : Int) (nw u6 u7 u8 ck : Value) (wr : World) : Prop :=
  ∃ (now : Int) (k : Nat) (S : Int) (v5 : Value) (bs : List Bk) (H : List Cl), nw = .int .i64 now ∧ ck = .int .i64 k ∧ H.length + k ≤ 59 ∧ 0 ≤ now ∧ now ≤ 1000000000 + (59 - (k : Int)) * 1000000002 ∧ ValidP M S bs now ∧ Hist H bs now ∧ (∀ c ∈ H, c.k.length = 9 ∧ 0 ≤ c.t) ∧ St w gs a n c g5 M S v5 bs u6 u7 u8 H wr
set_option maxRecDepth 10000 in
set_option maxHeartbeats 8000000 in
theorem limiter_walk (a : Option Addr) (zs : List Int) (n c : Nat) (hz : zs.length = n) (hn : n ≤ 1048576) (hb : Bytes zs) (w : World) (hc : Code w a zs) :
    Calls Try.prog 3 #[.slice a n c] w fun e w' => e = .returned (.bool true) ∧ Below w.heap.size w w' := by
  have HZ : Hid _ := hz
  have HBy : Hid _ := hb
  have HC : Hid (Code _ _ _) := hc
  have D0 : Hid _ := draw_any a zs c w (by omega) hc
  have ND : Hid (∀ (g : Nat) (k : Int) (W : World), 1 ≤ k ∧ k ≤ 9223372036854775807 → Draws W g a zs c → Calls Try.prog 6 #[.pointer (some ⟨g, 0, none⟩), .int .i64 k] W fun e w' => ∃ (r : Int), 0 ≤ r ∧ r < k ∧ e = .returned (.int .i64 r) ∧ Draws w' g a zs c ∧ ∃ cs, Put W g cs 50 w') := fun g k W hk hD => drawK_any g a zs c k W hD hb (by omega) hk
  rw [hz] at D0
  clear hz hb hc
  have h0 : ¬ 1048576 < (n : Int) := by omega
  go_enter Try.func3, Try.ntmps3
  go_wp2_with fail
  refine Calls.mono D0.out ?_
  rintro e w1 ⟨gs, rfl, hgs, hD1, hb1⟩
  have DR1 : Hid (Draws _ _ _ _ _) := hD1
  have B1 : Hid _ := hb1
  have GS : w.heap.size ≤ gs := hgs
  clear D0 hD1 hb1 hgs
  go_wp2_with fail
  refine Calls.mono (ND.out gs 1000000000 w1 (by decide) DR1.out) ?_
  rintro e w2 ⟨r1, r1a, r1b, rfl, hD2, cs2, hP2⟩
  have DR2 : Hid (Draws _ _ _ _ _) := hD2
  have B2 : Hid (Below w.heap.size w w2) := hP2.below _ _ B1.out GS
  clear hD2 hP2 DR1 B1
  go_wp2_with fail
  refine Calls.mono (ND.out gs 5 w2 (by decide) DR2.out) ?_
  rintro e w3 ⟨r2, r2a, r2b, rfl, hD3, cs3, hP3⟩
  have DR3 : Hid (Draws _ _ _ _ _) := hD3
  have B3 : Hid (Below w.heap.size w w3) := hP3.below _ _ B2.out GS
  clear hD3 hP3 DR2 B2
  go_wp2_with (refine wpList_put_row rfl 28 _ _ rfl w3.heap.size #[.int .i64 (1 + r2), .int .i64 0, .slice none 0 0] rfl rfl 28 _ (heap_alloc_new _ _) (by kernel_rfl) rfl (all3 rfl rfl rfl) ?_)
  intro w4 hP4
  have BL : Hid (Below w3.heap.size w3 w4) := hP4.below _ _ ((Below.refl _ _).alloc (Nat.le_refl _) _) (Nat.le_refl _)
  have LM : Hid _ := hP4.here
  have S5 : Hid (St w gs a n c w3.heap.size (1 + r2) 0 (.slice none 0 0) [] (.slice (some ⟨w4.heap.size, 0, none⟩) 0 0) (.slice (some ⟨w4.heap.size + 1, 0, none⟩) 0 0) (.slice (some ⟨w4.heap.size + 1 + 1, 0, none⟩) 0 0) [] (((w4.alloc (.cells #[] 3)).alloc (.cells #[] 33)).alloc (.cells #[] 4))) := by
    have B4 : Below w.heap.size w w4 := B3.out.trans (BL.out.mono B3.out.size)
    have B5 : Below w4.heap.size w4 (((w4.alloc (.cells #[] 3)).alloc (.cells #[] 33)).alloc (.cells #[] 4)) := (((Below.refl _ _).alloc (Nat.le_refl _) _).alloc (by simp) _).alloc (by simp; omega) _
    obtain ⟨i, x, q1, q2, q3, q4⟩ := DR3.out.row
    rw [HZ.out] at q1 q4
    have q5 := keepT_below 0 (BL.out.trans (B5.mono BL.out.size))
    have q6 := keepT_below 0 B5
    refine ⟨B4.trans (B5.mono B4.size), GS, B3.out.size, ⟨i, x, q1, q2, q3, q5.blk _ _ _ _ q4 (by decide)⟩, q6.blk _ _ _ _ LM.out (by decide), .inl ⟨rfl, rfl⟩, ?_, ?_, ?_⟩
    · exact ⟨rfl, .inr ⟨_, 0, #[], rfl, B4.size, by simp only [heapAt, World.size_alloc]; simp; omega, Nat.le_refl _, Nat.zero_le _, rfl, rfl⟩⟩
    · exact ⟨rfl, .inr ⟨_, 0, #[], rfl, by have := B4.size; omega, by simp only [heapAt, World.size_alloc]; simp, Nat.le_refl _, Nat.zero_le _, rfl, rfl⟩⟩
    · exact ⟨rfl, .inr ⟨_, 0, #[], rfl, by have := B4.size; omega, by simp only [heapAt, World.size_alloc]; simp, Nat.le_refl _, Nat.zero_le _, rfl, rfl⟩⟩
  obtain ⟨g5, hg5⟩ : ∃ x, x = w3.heap.size := ⟨_, rfl⟩
  rw [← hg5] at S5 ⊢
  clear hP4 BL LM DR3 B3 hg5
  go_wp2_with fail
  refine Calls.mono (size57_any a n c (by omega) _) ?_
  rintro e w5' ⟨sz, sza, szb, rfl, hw5⟩
  rw [hw5]
  obtain ⟨W6, hW6⟩ : ∃ x, x = ((w4.alloc (.cells #[] 3)).alloc (.cells #[] 33)).alloc (.cells #[] 4) := ⟨_, rfl⟩
  rw [← hW6] at S5 ⊢
  obtain ⟨x6, hx6⟩ : ∃ x, x = w4.heap.size := ⟨_, rfl⟩
  rw [← hx6] at S5 ⊢
  clear hw5 hW6 hx6
  go_wp2_with fail
  refine Calls.mono (ND.out gs sz W6 ⟨by omega, by omega⟩ (S5.out.draws HC.out HZ.out)) ?_
  rintro e w7 ⟨r3, r3a, r3b, rfl, hD, hP⟩
  have S7 : Hid (St _ _ _ _ _ _ _ _ _ _ _ _ _ _ _) := S5.out.draw HZ.out hD hP
  clear hD hP S5
  obtain ⟨kk, hkk⟩ : ∃ kk : Nat, 3 + r3 = (kk : Int) := ⟨(3 + r3).toNat, by omega⟩
  have kkb : kk ≤ 59 := by omega
  go_wp2_with fail
  clear hkk
  obtain ⟨M, hM⟩ : ∃ x : Int, x = 1 + r2 := ⟨_, rfl⟩
  have M1 : 1 ≤ M := by omega
  have M2 : M ≤ 5 := by omega
  rw [← hM] at S7
  have V0 : Hid (ValidP M 0 [] r1) := ⟨r1a, M1, by omega, by simp; omega, Int.le_refl _, r1a, fun b h => (by cases h), List.Pairwise.nil⟩
  clear hM
  go_loopw [4, 6, 7, 8, 9] (fun nw u6 u7 u8 ck wr => LInv w gs a n c g5 M nw u6 u7 u8 ck wr) (fun _ _ _ _ ck _ => (intOf ck).toNat)
  case atStart => exact ⟨r1, kk, 0, _, [], [], rfl, rfl, by simpa using kkb, r1a, by omega, V0.out, hist_start _ _, fun c h => (by cases h), S7.out⟩
  case round =>
    obtain ⟨now, k, S, v5, bs, H, rfl, rfl, hHk, now0, now1, hV, hH, hK, hS⟩ := hrel
    have V : Hid (ValidP _ _ _ _) := hV
    have HI : Hid (Hist _ _ _) := hH
    have KS : Hid _ := hK
    have SR : Hid (St _ _ _ _ _ _ _ _ _ _ _ _ _ _ _) := hS
    clear hV hH hK hS S7 V0
    by_cases hk0 : 0 < k
    · go_wp2_with fail
      refine Calls.mono (ND.out gs 6 wr (by decide) (SR.out.draws HC.out HZ.out)) ?_
      rintro e w8 ⟨r4, r4a, r4b, rfl, hD, hP⟩
      have S8 : Hid (St _ _ _ _ _ _ _ _ _ _ _ _ _ _ _) := SR.out.draw HZ.out hD hP
      clear hD hP
      go_upto_block 2 with fail
      go_cut [4, 48] (fun v _ wc => ∃ nw : Int, v = .int .i64 nw ∧ now ≤ nw ∧ nw ≤ now + 1000000002 ∧ St w gs a n c g5 M S v5 bs u6 u7 u8 H wc)
      case first =>
        by_cases q0 : r4 = 0
        · subst q0
          go_wp2_with fail
          refine Calls.mono (ND.out gs 50000000 w8 (by decide) (S8.out.draws HC.out HZ.out)) ?_
          rintro e w9 ⟨r5, r5a, r5b, rfl, hD, hP⟩
          have S9 : Hid (St _ _ _ _ _ _ _ _ _ _ _ _ _ _ _) := S8.out.draw HZ.out hD hP
          clear hD hP
          go_wp2_with fail
          go_meet
          exact ⟨now + r5, rfl, by omega, by omega, S9.out⟩
        by_cases q1 : r4 = 1
        · subst q1
          go_wp2_with fail
          go_meet
          exact ⟨now + 50000000, rfl, by omega, by omega, S8.out⟩
        by_cases q2 : r4 = 2
        · subst q2
          go_wp2_with fail
          refine Calls.mono (ND.out gs 4 w8 (by decide) (S8.out.draws HC.out HZ.out)) ?_
          rintro e w9 ⟨r5, r5a, r5b, rfl, hD, hP⟩
          have S9 : Hid (St _ _ _ _ _ _ _ _ _ _ _ _ _ _ _) := S8.out.draw HZ.out hD hP
          clear hD hP
          by_cases q3 : r5 = 0
          · subst q3
            go_wp2_with fail
            refine Calls.mono (ND.out gs 3 w9 (by decide) (S9.out.draws HC.out HZ.out)) ?_
            rintro e w10 ⟨r6, r6a, r6b, rfl, hD, hP⟩
            have S10 : Hid (St _ _ _ _ _ _ _ _ _ _ _ _ _ _ _) := S9.out.draw HZ.out hD hP
            clear hD hP
            go_wp2_with fail
            go_meet
            exact ⟨now + (1000000000 + r6 - 1), rfl, by omega, by omega, S10.out⟩
          · skip
            go_wp2_with fail
            go_meet
            exact ⟨now, rfl, by omega, by omega, S9.out⟩
        · skip
          go_wp2_with fail
          go_meet
          exact ⟨now, rfl, by omega, by omega, S8.out⟩
      case rest =>
        obtain ⟨nw, rfl, n1, n2, hSA⟩ := hcut
        have SA : Hid (St _ _ _ _ _ _ _ _ _ _ _ _ _ _ _) := hSA
        clear hSA
        go_wp2_with fail
        refine Calls.mono (ND.out gs 6 wc (by decide) (SA.out.draws HC.out HZ.out)) ?_
        rintro e x1 ⟨r7, r7a, r7b, rfl, hD, hP⟩
        have SB : Hid (St _ _ _ _ _ _ _ _ _ _ _ _ _ _ _) := SA.out.draw HZ.out hD hP
        clear hD hP SA
        go_wp2_with fail
        refine Calls.mono (ND.out gs (1 + r7) x1 ⟨by omega, by omega⟩ (SB.out.draws HC.out HZ.out)) ?_
        rintro e x2 ⟨r8, r8a, r8b, rfl, hD, hP⟩
        have SC : Hid (St _ _ _ _ _ _ _ _ _ _ _ _ _ _ _) := SB.out.draw HZ.out hD hP
        clear hD hP SB
        have r8c : r8 < 6 := by omega
        obtain ⟨q, hq⟩ : ∃ q : Bk, q.key = [4, 1, r8, 0, 0, 0, 0, 0, 0] := ⟨⟨[4, 1, r8, 0, 0, 0, 0, 0, 0], 0, 0, rfl, by simp; omega⟩, rfl⟩
        have hqa : (#[.int .u8 4, .int .u8 1, .int .u8 r8, .int .u8 0, .int .u8 0, .int .u8 0, .int .u8 0, .int .u8 0, .int .u8 0] : Array Value) = Iv .u8 q.key := by rw [hq]; rfl
        have HQA : Hid _ := hqa
        have q9 : Hid ((Try.prog.info? 33).map (·.size) = some (Iv .u8 q.key).size) := by show _ = _; rw [Iv_size, q.len]; exact infoA9
        have z9 : Hid ((#[.int .u8 0, .int .u8 0, .int .u8 0, .int .u8 0, .int .u8 0, .int .u8 0, .int .u8 0, .int .u8 0, .int .u8 0] : Array Value).size = (Iv .u8 q.key).size) := by show _ = _; rw [Iv_size, q.len]; rfl
        clear hqa hq
        go_wp2_with ((with_reducible refine gSt ?_); refine wpList_put_row rfl 33 _ _ rfl x2.heap.size (Iv .u8 q.key) rfl (by rw [← HQA.out]; rfl) 33 _ (heap_alloc_new _ _) q9.out z9.out (Iv_one _ _) ?_)
        intro x3 hP3
        have BL : Hid (Below x2.heap.size x2 x3) := hP3.below _ _ ((Below.refl _ _).alloc (Nat.le_refl _) _) (Nat.le_refl _)
        have KR : Hid _ := hP3.here
        have SD : Hid (St _ _ _ _ _ _ _ _ _ _ _ _ _ _ _) := SC.out.later BL.out
        obtain ⟨gk, hgk⟩ : ∃ x, x = x2.heap.size := ⟨_, rfl⟩
        rw [← hgk] at KR ⊢
        clear hP3 BL SC hgk
        obtain ⟨a5, cap5, hv5, hHB5⟩ := SD.out.bks.shape
        obtain ⟨LB, hLB⟩ : ∃ x, x = bs.length := ⟨_, rfl⟩
        have HLB : Hid _ := hLB
        have LBb : LB ≤ 5 := by have h1 := V.out.len; rw [← hLB] at h1; omega
        have SE : Hid (St _ _ _ _ _ _ _ _ _ _ _ _ _ _ _) := SD.out
        have V2 : Hid (ValidP _ _ _ _) := valid_later V.out n1
        have c50 : Hid (x3.cell? ⟨g5, 0, none⟩ = some (.int .i64 M)) := cell_of_row _ _ _ _ _ _ SD.out.lim
        have c51 : Hid (x3.cell? ⟨g5, 1, none⟩ = some (.int .i64 S)) := cell_of_row _ _ _ _ _ _ SD.out.lim
        have c52 : Hid (x3.cell? ⟨g5, 2, none⟩ = some v5) := cell_of_row _ _ _ _ _ _ SD.out.lim
        have g5l : Hid (g5 < x3.heap.size) := (Array.getElem?_eq_some_iff.1 SD.out.lim).1
        have gkl : Hid (gk < x3.heap.size) := (Array.getElem?_eq_some_iff.1 KR.out).1
        obtain ⟨LN, hLN⟩ : ∃ x, x = (resL M S bs q nw).length := ⟨_, rfl⟩
        obtain ⟨S2, hS2⟩ : ∃ x, x = resS S nw := ⟨_, rfl⟩
        obtain ⟨PP, hPP⟩ : ∃ x, x = resP M S bs q nw := ⟨_, rfl⟩
        have HLN : Hid _ := hLN
        have HS2 : Hid _ := hS2
        have HPP : Hid _ := hPP
        have LNb : LN ≤ 6 := by have h1 := res_length M S bs q nw; omega
        have nwb : nw ≤ 9223372036854775807 := by omega
        have KSP : Hid (∀ W aq cq, HB W aq bs → Calls Try.prog 8 #[.agg #[.int .i64 M, .int .i64 S, .slice aq LB cq], .agg (Iv .u8 q.key), .int .i64 nw] W fun e w' => ∃ g3 cap3 cur3, e = .returned (.tuple #[.agg #[.int .i64 M, .int .i64 S2, .slice (some ⟨g3, 0, none⟩) LN cap3], .bool PP]) ∧ W.heap.size ≤ g3 ∧ w'.heap[g3]? = some (.cells cur3 37) ∧ cur3.toList.take (LN * 11) = flatB (resL M S bs q nw) ∧ Below W.heap.size W w') := fun W aq cq h => by
          refine (specAllow_any bs LB hLB.symm (by omega) aq cq M S nw q W h nwb).mono ?_
          rintro e w' ⟨_, h2, h3⟩
          obtain ⟨g3, cap3, cur3, he, hg, hr⟩ := h2 V2.out
          exact ⟨g3, cap3, cur3, by rw [he, ← hS2, ← hLN, ← hPP], hg, hr.1, by rw [hLN]; exact hr.2, h3⟩
        have KIM : Hid (∀ W aq cq, HB W aq bs → Calls Try.prog 9 #[.agg #[.int .i64 M, .int .i64 S, .slice aq LB cq], .agg (Iv .u8 q.key), .int .i64 nw] W fun e w' => ∃ g3 cap3 cur3, e = .returned (.tuple #[.agg #[.int .i64 M, .int .i64 S2, .slice (some ⟨g3, 0, none⟩) LN cap3], .bool PP]) ∧ W.heap.size ≤ g3 ∧ w'.heap[g3]? = some (.cells cur3 37) ∧ cur3.toList.take (LN * 11) = flatB (resL M S bs q nw) ∧ Below W.heap.size W w') := fun W aq cq h => by
          refine (implAllow_any bs LB hLB.symm (by omega) aq cq M S nw q W h nwb).mono ?_
          rintro e w' ⟨_, h2, h3⟩
          obtain ⟨g3, cap3, cur3, he, hg, hr⟩ := h2 V2.out
          exact ⟨g3, cap3, cur3, by rw [he, ← hS2, ← hLN, ← hPP], hg, hr.1, by rw [hLN]; exact hr.2, h3⟩
        rw [← hLB] at hv5
        have HV5 : Hid _ := hv5
        have HB5 : Hid (HB _ _ _) := hHB5
        clear hv5 hHB5 hLB SD hLN hS2 hPP
        have FX : Hid (Rn x3 [] x3.drew) := (Rn.start x3).drew
        go_wp2_with fail
        refine wp_region_tree 17 (fun w' => ∃ x : Wp (fun v => Rn x3 [] v), w' = x.w) (.held [0, 1, 2, 3, 5, 6, 9, 10] (.fork 4 (.fork 7 (.held [8] (.fork 11 (.held [12, 13, 14] (.tail 15 (.tail 16 (.last 17 .done)))) 15 (.tail 11 (.held [12, 13, 14] (.tail 16 (.last 17 .done)))))) 15 (.tail 7 (.held [8] (.tail 11 (.held [12, 13, 14] (.tail 16 (.last 17 .done))))))) 15 (.tail 4 (.tail 7 (.held [8] (.tail 11 (.held [12, 13, 14] (.tail 16 (.last 17 .done))))))))) mixedLi (by kernel_rfl) ⟨⟨_, FX.out⟩, rfl⟩ ?_
        obtain ⟨V0, eV⟩ : ∃ V, V = x3.drew := ⟨_, rfl⟩
        rw [← eV] at FX ⊢
        clear eV
        refine wpTr_held ?_
        simp only [opsAt_cons, opsAt_nil, nthOp_zero, nthOp_succ, List.cons_append, List.nil_append]
        refine quietVal rfl (.pointer (some ⟨g5, 0, none⟩)) (fun W' => by kernel_rfl) ?_
        simp only [Act.put, List.setIfInBounds_toArray, List.set_cons_succ, List.set_cons_zero]
        refine quietIn rfl (.int .i64 M) (fun w' hw => run_cell 3 _ rfl ⟨g5, 0, none⟩ rfl .i64 Try.underlying3 _ _ (by obtain ⟨x, rfl⟩ := hw; exact (x.p.bel.cell (p := ⟨g5, 0, none⟩) g5l.out).trans c50.out)) ?_
        simp only [Act.put, List.setIfInBounds_toArray, List.set_cons_succ, List.set_cons_zero]
        refine quietVal rfl (.pointer (some ⟨g5, 1, none⟩)) (fun W' => by kernel_rfl) ?_
        simp only [Act.put, List.setIfInBounds_toArray, List.set_cons_succ, List.set_cons_zero]
        refine quietIn rfl (.int .i64 S) (fun w' hw => run_cell 3 _ rfl ⟨g5, 1, none⟩ rfl .i64 Try.underlying3 _ _ (by obtain ⟨x, rfl⟩ := hw; exact (x.p.bel.cell (p := ⟨g5, 1, none⟩) g5l.out).trans c51.out)) ?_
        simp only [Act.put, List.setIfInBounds_toArray, List.set_cons_succ, List.set_cons_zero]
        refine quietVal rfl (.pointer (some ⟨g5, 2, none⟩)) (fun W' => by kernel_rfl) ?_
        simp only [Act.put, List.setIfInBounds_toArray, List.set_cons_succ, List.set_cons_zero]
        refine quietIn rfl v5 (fun w' hw => run_cellS 26 _ rfl ⟨g5, 2, none⟩ rfl Try.underlying26 _ _ (by obtain ⟨x, rfl⟩ := hw; exact (x.p.bel.cell (p := ⟨g5, 2, none⟩) g5l.out).trans c52.out)) ?_
        simp only [Act.put, List.setIfInBounds_toArray, List.set_cons_succ, List.set_cons_zero]
        refine wpQuiet_load_row rfl 33 _ rfl gk rfl _ (Iv .u8 q.key) _ _ (fun w' hw' => by obtain ⟨x, rfl⟩ := hw'; exact (x.p.bel.block gk gkl.out).trans KR.out) Try.underlying33 rfl q9.out ?_
        simp only [Act.put, List.setIfInBounds_toArray, List.set_cons_succ, List.set_cons_zero]
        refine quietVal rfl (.int .i64 nw) (fun W' => by kernel_rfl) ?_
        simp only [Act.put, List.setIfInBounds_toArray, List.set_cons_succ, List.set_cons_zero]
        refine wpQuiet_nil ?_
        apply sh7 (.tail 16 (.last 17 .done)) (fun (ge : Nat) (aq : Option Addr) (cq g3 cap3 : Nat) (cur3 : Array Value) (b11 : Nat) v => Rn x3 [(g3, cur3, 37), (b11, (#[.int .i64 0, .int .i64 0, .slice none 0 0] : Array Value), 28)] v ∧ cur3.toList.take (LN * 11) = flatB (resL M S bs q nw))
        intro hB3
        apply sh6 (.tail 15 (.tail 16 (.last 17 .done))) (fun (ge : Nat) (aq : Option Addr) (cq g3 cap3 : Nat) (cur3 : Array Value) v => Rn x3 [(g3, cur3, 37)] v ∧ cur3.toList.take (LN * 11) = flatB (resL M S bs q nw))
        intro hA3
        apply sh4 (.tail 11 (.held [12, 13, 14] (.tail 16 (.last 17 .done)))) (fun (ge : Nat) (aq : Option Addr) (cq b11 : Nat) v => Rn x3 [(b11, (#[.int .i64 0, .int .i64 0, .slice none 0 0] : Array Value), 28)] v ∧ HB v aq bs)
        intro hB2
        apply sh3 (.fork 11 (.held [12, 13, 14] (.tail 15 (.tail 16 (.last 17 .done)))) 15 (.tail 11 (.held [12, 13, 14] (.tail 16 (.last 17 .done))))) (fun (ge : Nat) (aq : Option Addr) (cq : Nat) v => Rn x3 [] v ∧ HB v aq bs)
        intro hA2
        apply sh2 (.tail 7 (.held [8] (.tail 11 (.held [12, 13, 14] (.tail 16 (.last 17 .done)))))) (fun (ge b11 : Nat) v => Rn x3 [(ge, #[], 37), (b11, (#[.int .i64 0, .int .i64 0, .slice none 0 0] : Array Value), 28)] v)
        intro hB1
        apply sh1 (.tail 4 (.tail 7 (.held [8] (.tail 11 (.held [12, 13, 14] (.tail 16 (.last 17 .done))))))) (fun (b11 : Nat) v => Rn x3 [(b11, (#[.int .i64 0, .int .i64 0, .slice none 0 0] : Array Value), 28)] v)
        intro hB0
        apply sh1 (.fork 7 (.held [8] (.fork 11 (.held [12, 13, 14] (.tail 15 (.tail 16 (.last 17 .done)))) 15 (.tail 11 (.held [12, 13, 14] (.tail 16 (.last 17 .done)))))) 15 (.tail 7 (.held [8] (.tail 11 (.held [12, 13, 14] (.tail 16 (.last 17 .done))))))) (fun (ge : Nat) v => Rn x3 [(ge, #[], 37)] v)
        intro hA1
        · skip
          refine wpTr_fork ?_ ?_
          · skip
            simp only [opsAt_cons, opsAt_nil, nthOp_zero, nthOp_succ, List.cons_append, List.nil_append]
            go_wp2_with fail
            have H2 := FX.out.alloc (#[]) 37
            refine ⟨⟨⟨_, H2.tail⟩, rfl⟩, ?_⟩
            obtain ⟨ge, ec⟩ : ∃ c, c = V0.heap.size := ⟨_, rfl⟩
            rw [← ec] at H2 ⊢
            exact hA1.out ge _ H2
          · skip
            simp only [opsAt_cons, opsAt_nil, nthOp_zero, nthOp_succ, List.cons_append, List.nil_append]
            go_wp2_with fail
            have H2 := FX.out.alloc ((#[.int .i64 0, .int .i64 0, .slice none 0 0] : Array Value)) 28
            refine ⟨⟨⟨_, H2.tail⟩, rfl⟩, ?_⟩
            obtain ⟨b11, ec⟩ : ∃ c, c = V0.heap.size := ⟨_, rfl⟩
            rw [← ec] at H2 ⊢
            exact hB0.out b11 _ H2
        · skip
          intro ge y1 H0
          have H : Hid _ := H0
          clear H0
          refine wpTr_fork ?_ ?_
          · skip
            simp only [opsAt_cons, opsAt_nil, nthOp_zero, nthOp_succ, List.cons_append, List.nil_append]
            have hgeR : y1.heap[ge]? = some (.cells #[] 37) := H.out.at (.head _)
            have hgw : x3.heap.size ≤ ge := (H.out.rw.row _ (.head _)).1
            have hne : ∀ r ∈ ([] : List (Nat × Array Value × TypeId)), r.1 ≠ ge := fun r hr => Rn.ne_mid (X := []) (x := (ge, #[], 37)) (Y := ([] : List (Nat × Array Value × TypeId))) H.out r hr
            have hBR : BR y1 v5 bs := SE.out.bks.keep (keepT_below 0 H.out.bel) (by decide)
            obtain ⟨v9, W9, aq, cq, hr9, rfl, hHB9, hg9⟩ := cpB_run y1 ge v5 bs hBR hgeR (by rw [← HLB.out]; omega) 26
            rw [← HLB.out] at hr9
            have H2 : Rn x3 ([] : List (Nat × Array Value × TypeId)) W9 := Rn.keptNe (H.out.tail) hg9 hne hgw
            have H2x : Hid _ := H2
            have H9 : Hid (HB _ _ _) := hHB9
            clear hne hgw hgeR hg9 hBR hHB9 H2
            go_wp2_with ((with_reducible refine gAp ?_); refine wpList_append_anyL rfl _ _ 26 rfl (.slice (some ⟨ge, 0, none⟩) 0 0) v5 rfl rfl _ _ hr9 ?_)
            refine ⟨⟨⟨_, H2x.out⟩, rfl⟩, ?_⟩
            clear hr9
            refine wpTr_held ?_
            simp only [opsAt_cons, opsAt_nil, nthOp_zero, nthOp_succ, List.cons_append, List.nil_append]
            refine quietVal rfl (.agg #[.int .i64 M, .int .i64 S, .slice aq LB cq]) (fun W' => by kernel_rfl) ?_
            simp only [Act.put, List.setIfInBounds_toArray, List.set_cons_succ, List.set_cons_zero]
            refine wpQuiet_nil ?_
            exact hA2.out ge aq cq _ ⟨H2x.out, H9.out⟩
          · skip
            simp only [opsAt_cons, opsAt_nil, nthOp_zero, nthOp_succ, List.cons_append, List.nil_append]
            go_wp2_with fail
            have H2 := H.out.alloc ((#[.int .i64 0, .int .i64 0, .slice none 0 0] : Array Value)) 28
            refine ⟨⟨⟨_, H2.tail.tail⟩, rfl⟩, ?_⟩
            obtain ⟨b11, ec⟩ : ∃ c, c = y1.heap.size := ⟨_, rfl⟩
            rw [← ec] at H2 ⊢
            exact hB1.out ge b11 _ H2.two
        · skip
          intro b11 y1 H0
          have H : Hid _ := H0
          clear H0
          refine wpTr_tail ?_
          simp only [opsAt_cons, opsAt_nil, nthOp_zero, nthOp_succ, List.cons_append, List.nil_append]
          go_wp2_with fail
          have H2 := H.out.alloc (#[]) 37
          refine ⟨⟨⟨_, H2.tail.tail⟩, rfl⟩, ?_⟩
          obtain ⟨ge, ec⟩ : ∃ c, c = y1.heap.size := ⟨_, rfl⟩
          rw [← ec] at H2 ⊢
          exact hB1.out ge b11 _ H2
        · skip
          intro ge b11 y1 H0
          have H : Hid _ := H0
          clear H0
          refine wpTr_tail ?_
          simp only [opsAt_cons, opsAt_nil, nthOp_zero, nthOp_succ, List.cons_append, List.nil_append]
          have hgeR : y1.heap[ge]? = some (.cells #[] 37) := H.out.at (.head _)
          have hgw : x3.heap.size ≤ ge := (H.out.rw.row _ (.head _)).1
          have hne : ∀ r ∈ [(b11, (#[.int .i64 0, .int .i64 0, .slice none 0 0] : Array Value), 28)], r.1 ≠ ge := fun r hr => Rn.ne_mid (X := []) (x := (ge, #[], 37)) (Y := [(b11, (#[.int .i64 0, .int .i64 0, .slice none 0 0] : Array Value), 28)]) H.out r hr
          have hBR : BR y1 v5 bs := SE.out.bks.keep (keepT_below 0 H.out.bel) (by decide)
          obtain ⟨v9, W9, aq, cq, hr9, rfl, hHB9, hg9⟩ := cpB_run y1 ge v5 bs hBR hgeR (by rw [← HLB.out]; omega) 26
          rw [← HLB.out] at hr9
          have H2 : Rn x3 [(b11, (#[.int .i64 0, .int .i64 0, .slice none 0 0] : Array Value), 28)] W9 := Rn.keptNe (H.out.tail) hg9 hne hgw
          have H2x : Hid _ := H2
          have H9 : Hid (HB _ _ _) := hHB9
          clear hne hgw hgeR hg9 hBR hHB9 H2
          go_wp2_with ((with_reducible refine gAp ?_); refine wpList_append_anyL rfl _ _ 26 rfl (.slice (some ⟨ge, 0, none⟩) 0 0) v5 rfl rfl _ _ hr9 ?_)
          refine ⟨⟨⟨_, H2x.out.tail⟩, rfl⟩, ?_⟩
          clear hr9
          refine wpTr_held ?_
          simp only [opsAt_cons, opsAt_nil, nthOp_zero, nthOp_succ, List.cons_append, List.nil_append]
          refine quietVal rfl (.agg #[.int .i64 M, .int .i64 S, .slice aq LB cq]) (fun W' => by kernel_rfl) ?_
          simp only [Act.put, List.setIfInBounds_toArray, List.set_cons_succ, List.set_cons_zero]
          refine wpQuiet_nil ?_
          exact hB2.out ge aq cq b11 _ ⟨H2x.out, H9.out⟩
        · skip
          intro ge aq cq y1 H0
          have H : Hid _ := H0
          clear H0
          refine wpTr_fork ?_ ?_
          · skip
            simp only [opsAt_cons, opsAt_nil, nthOp_zero, nthOp_succ, List.cons_append, List.nil_append]
            go_wp2_with fail
            refine Calls.mono (KSP.out _ aq cq H.out.2) ?_
            rintro e Z ⟨g3, cap3, cur3, rfl, hg, hr, htk, hb⟩
            have H2 : Hid _ := H.out.1.gain hb hg hr
            have TK : Hid _ := htk
            clear hg hr hb htk
            go_wp2_with fail
            refine ⟨⟨⟨_, H2.out.tail⟩, rfl⟩, ?_⟩
            refine wpTr_held ?_
            simp only [opsAt_cons, opsAt_nil, nthOp_zero, nthOp_succ, List.cons_append, List.nil_append]
            refine quietVal rfl (.tuple #[.agg #[.int .i64 M, .int .i64 S2, .slice (some ⟨g3, 0, none⟩) LN cap3], .bool PP]) (fun W' => by kernel_rfl) ?_
            simp only [Act.put, List.setIfInBounds_toArray, List.set_cons_succ, List.set_cons_zero]
            refine quietVal rfl (.agg #[.int .i64 M, .int .i64 S2, .slice (some ⟨g3, 0, none⟩) LN cap3]) (fun W' => by kernel_rfl) ?_
            simp only [Act.put, List.setIfInBounds_toArray, List.set_cons_succ, List.set_cons_zero]
            refine quietVal rfl (.bool PP) (fun W' => by kernel_rfl) ?_
            simp only [Act.put, List.setIfInBounds_toArray, List.set_cons_succ, List.set_cons_zero]
            refine wpQuiet_nil ?_
            exact hA3.out ge aq cq g3 cap3 cur3 _ ⟨H2.out, TK.out⟩
          · skip
            simp only [opsAt_cons, opsAt_nil, nthOp_zero, nthOp_succ, List.cons_append, List.nil_append]
            go_wp2_with fail
            have H2 := H.out.1.alloc ((#[.int .i64 0, .int .i64 0, .slice none 0 0] : Array Value)) 28
            refine ⟨⟨⟨_, H2.tail⟩, rfl⟩, ?_⟩
            have H9 := HB.later H.out.2 ((Below.refl y1.heap.size y1).alloc (Nat.le_refl _) (.cells ((#[.int .i64 0, .int .i64 0, .slice none 0 0] : Array Value)) 28)) (Nat.le_refl _)
            obtain ⟨b11, ec⟩ : ∃ c, c = y1.heap.size := ⟨_, rfl⟩
            rw [← ec] at H2 ⊢
            exact hB2.out ge aq cq b11 _ ⟨H2, H9⟩
        · skip
          intro ge aq cq b11 y1 H0
          have H : Hid _ := H0
          clear H0
          refine wpTr_tail ?_
          simp only [opsAt_cons, opsAt_nil, nthOp_zero, nthOp_succ, List.cons_append, List.nil_append]
          go_wp2_with fail
          refine Calls.mono (KSP.out _ aq cq H.out.2) ?_
          rintro e Z ⟨g3, cap3, cur3, rfl, hg, hr, htk, hb⟩
          have H2 : Hid _ := H.out.1.gain hb hg hr
          have TK : Hid _ := htk
          clear hg hr hb htk
          go_wp2_with fail
          refine ⟨⟨⟨_, H2.out.tail.tail⟩, rfl⟩, ?_⟩
          refine wpTr_held ?_
          simp only [opsAt_cons, opsAt_nil, nthOp_zero, nthOp_succ, List.cons_append, List.nil_append]
          refine quietVal rfl (.tuple #[.agg #[.int .i64 M, .int .i64 S2, .slice (some ⟨g3, 0, none⟩) LN cap3], .bool PP]) (fun W' => by kernel_rfl) ?_
          simp only [Act.put, List.setIfInBounds_toArray, List.set_cons_succ, List.set_cons_zero]
          refine quietVal rfl (.agg #[.int .i64 M, .int .i64 S2, .slice (some ⟨g3, 0, none⟩) LN cap3]) (fun W' => by kernel_rfl) ?_
          simp only [Act.put, List.setIfInBounds_toArray, List.set_cons_succ, List.set_cons_zero]
          refine quietVal rfl (.bool PP) (fun W' => by kernel_rfl) ?_
          simp only [Act.put, List.setIfInBounds_toArray, List.set_cons_succ, List.set_cons_zero]
          refine wpQuiet_nil ?_
          exact hB3.out ge aq cq g3 cap3 cur3 b11 _ ⟨H2.out, TK.out⟩
        · skip
          intro ge aq cq g3 cap3 cur3 y1 H0
          have H : Hid _ := H0
          clear H0
          refine wpTr_tail ?_
          simp only [opsAt_cons, opsAt_nil, nthOp_zero, nthOp_succ, List.cons_append, List.nil_append]
          go_wp2_with fail
          have H2 := H.out.1.alloc ((#[.int .i64 0, .int .i64 0, .slice none 0 0] : Array Value)) 28
          refine ⟨⟨⟨_, H2.tail.tail⟩, rfl⟩, ?_⟩
          obtain ⟨b11, ec⟩ : ∃ c, c = y1.heap.size := ⟨_, rfl⟩
          rw [← ec] at H2 ⊢
          exact hB3.out ge aq cq g3 cap3 cur3 b11 _ ⟨H2.two, H.out.2⟩
        intro ge aq cq g3 cap3 cur3 b11 y1 H0
        have H : Hid _ := H0
        clear H0 FX
        refine wpTr_tail ?_
        simp only [opsAt_cons, opsAt_nil, nthOp_zero, nthOp_succ, List.cons_append, List.nil_append]
        go_wp2_with ((with_reducible refine gSt ?_); refine wpList_put_row rfl 28 _ _ rfl b11 #[.int .i64 M, .int .i64 S2, .slice (some ⟨g3, 0, none⟩) LN cap3] rfl rfl _ _ (H.out.1.at (.tail _ (.head _))) (by kernel_rfl) rfl (all3 rfl rfl rfl) ?_)
        intro y2 hP
        have H2 : Hid (Rn x3 [(g3, cur3, 37), (b11, #[.int .i64 M, .int .i64 S2, .slice (some ⟨g3, 0, none⟩) LN cap3], 28)] y2) := Rn.putK (R1 := [(g3, cur3, 37)]) (R2 := []) H.out.1 hP
        have TK : Hid _ := H.out.2
        clear hP H
        go_wp2_with fail
        refine ⟨⟨⟨_, H2.out.tail.tail⟩, rfl⟩, ?_⟩
        refine wpTr_last ?_
        simp only [opsAt_cons, opsAt_nil, nthOp_zero, nthOp_succ, List.cons_append, List.nil_append]
        go_wp2_with fail
        refine last_tr ?_
        have SF : Hid (St _ _ _ _ _ _ _ _ _ _ _ _ _ _ _) := SE.out.later H2.out.bel
        have KR2 : Hid _ := (H2.out.bel.block gk gkl.out).trans KR.out
        have W11 : Hid _ := H2.out.at (.tail _ (.head _))
        have G3 : Hid (ResB y2 g3 (resL M S bs q nw) cur3) := ⟨H2.out.at (.head _), by rw [← HLN.out]; exact TK.out⟩
        clear H2 TK SE KR c50 c51 c52 g5l gkl KSP HB5 HV5
        have hm9 : Hid (Try.prog.eqGuardType Try.prog.depth 33 = false) := by show _ = _; kernel_rfl
        obtain ⟨a3, ha3⟩ : ∃ x : Option Addr, x = some ⟨g3, 0, none⟩ := ⟨_, rfl⟩
        rw [← ha3] at W11
        have HB3 : Hid (HB y2 a3 (resL M S bs q nw)) := by show HB _ _ _; rw [ha3]; exact G3.out.reads
        obtain ⟨a5, cap5, hv5, hHB5⟩ := SF.out.bks.shape
        rw [← HLB.out] at hv5
        subst hv5
        clear hHB5 G3 ha3
        have c112 : y2.cell? ⟨b11, 2, none⟩ = some (.slice a3 LN cap3) := cell_of_row _ _ _ _ _ _ W11.out
        have gkl : Hid (gk < y2.heap.size) := (Array.getElem?_eq_some_iff.1 KR2.out).1
        go_wp2_with fail
        go_loopw [13, 94] (fun x i wi => ∃ (j : Nat) (d : Int), j ≤ LN ∧ i = .int .i64 j ∧ x = .int .i64 d ∧ Rn y2 [] wi ∧ (d = 0 ∨ (d = -1 ∧ ∀ b ∈ (resL M S bs q nw).take j, b.key ≠ q.key))) (fun _ i _ => LN - (intOf i).toNat)
        case atStart => exact ⟨0, -1, Nat.zero_le _, rfl, rfl, Rn.start _, .inr ⟨rfl, fun b h => absurd h (by simp)⟩⟩
        case round =>
          obtain ⟨j, d, hj, rfl, rfl, hF, hd⟩ := hrel
          have F : Hid (Rn _ _ _) := hF
          have DD : Hid _ := hd
          clear hF hd
          by_cases hlt : j < LN
          · obtain ⟨g, o, ea, hg, hr⟩ := HB3.out j (by rw [← HLN.out]; exact hlt)
            have hkb : j < (resL M S bs q nw).length := by rw [← HLN.out]; exact hlt
            obtain ⟨b, hbd⟩ : ∃ b, b = (resL M S bs q nw)[j]'hkb := ⟨_, rfl⟩
            rw [← hbd] at hr
            have BD : Hid _ := hbd
            have hkb' : Hid _ := hkb
            have hbm : Hid (b ∈ (resL M S bs q nw)) := by show _ ∈ _; rw [hbd]; exact List.getElem_mem _
            have X : Hid (∀ w', Below y2.heap.size y2 w' → w'.rangeAt g (o + j * 11) (bkL b)) := fun w' hb j v hj => (hb.cell (p := ⟨g, _, none⟩) hg).trans (hr j v hj)
            have hi : Hid ((Try.prog.info? 37).map (·.size) = some (bkL b).length) := by show _ = _; rw [bkL_length]; exact infoB
            have hi2 : Hid ((Try.prog.info? 37).map (·.size) = some (bkL b).toArray.size) := by show _ = _; rw [bkL_size]; exact infoB
            have hz2 : Hid ((#[.int .u8 0, .int .u8 0, .int .u8 0, .int .u8 0, .int .u8 0, .int .u8 0, .int .u8 0, .int .u8 0, .int .u8 0, .int .i64 0, .int .i64 0] : Array Value).size = (bkL b).toArray.size) := by show _ = _; rw [bkL_size]; rfl
            have ho1 : Hid ((bkL b).toArray.all (·.oneCell') = true) := by show _ = _; rw [List.all_toArray]; exact bkL_one b
            subst ea
            obtain ⟨W0, hW0⟩ : ∃ x, x = wr := ⟨_, rfl⟩
            rw [← hW0] at F ⊢
            clear hW0 wr hbd hr
            go_wp2_with (first
              | ((with_reducible refine gLd ?_); refine wpList_load_mid rfl 37 _ rfl g (o + j * 11) rfl (bkL b) _ (X.out _ F.out.bel) Try.underlying37 rfl hi.out ?_)
              | ((with_reducible refine gSt ?_); refine wpList_put_row rfl 37 _ _ rfl W0.heap.size (bkL b).toArray rfl rfl 37 _ (heap_alloc_new _ _) hi2.out hz2.out ho1.out ?_))
            intro w2 hP2
            have F2 : Hid _ := F.out.newRow hP2
            obtain ⟨gb, hgb⟩ : ∃ x, x = W0.heap.size := ⟨_, rfl⟩
            rw [← hgb] at F2 ⊢
            clear hP2 F hgb hi hi2 hz2 ho1
            have R0 : Hid _ := row_range (F2.out.at (.head _))
            have KY : Hid (w2.rangeAt gb 0 (b.key.map (Value.int .u8))) := range_key R0.out
            have KK : Hid _ := (F2.out.bel.block gk gkl.out).trans KR2.out
            have i9 : Hid ((Try.prog.info? 33).map (·.size) = some (b.key.map (Value.int .u8)).length) := by show _ = _; rw [List.length_map, b.len]; exact infoA9
            have c10 : w2.cell? ⟨gb, 10, none⟩ = some (.int .i64 b.last) := by have := range_last R0.out; rwa [Nat.zero_add] at this
            have E9 : Hid _ := eq9 b.key q.key b.len q.len
            by_cases he : b.key = q.key
            · go_wp2_with (first
                | ((with_reducible refine gLd ?_); first
                  | refine wpList_load_mid rfl 33 _ rfl gb 0 rfl (b.key.map (Value.int .u8)) _ KY.out Try.underlying33 rfl i9.out ?_
                  | refine wpList_load_row rfl 33 _ rfl gk rfl _ (Iv .u8 q.key) _ _ KK.out Try.underlying33 rfl q9.out ?_)
                | ((with_reducible refine gEq ?_); refine wpList_eql rfl 33 _ _ _ rfl (Iv .u8 b.key) (Iv .u8 q.key) rfl rfl true (fun w => by rw [E9.out w, decide_eq_true he]) hm9.out ?_))
              go_roundw
              case rel => exact ⟨j + 1, 0, by omega, by go_num, rfl, F2.out.tail, .inl rfl⟩
              case measure => simp [intOf]; omega
            · go_wp2_with (first
                | ((with_reducible refine gLd ?_); first
                  | refine wpList_load_mid rfl 33 _ rfl gb 0 rfl (b.key.map (Value.int .u8)) _ KY.out Try.underlying33 rfl i9.out ?_
                  | refine wpList_load_row rfl 33 _ rfl gk rfl _ (Iv .u8 q.key) _ _ KK.out Try.underlying33 rfl q9.out ?_)
                | ((with_reducible refine gEq ?_); refine wpList_eql rfl 33 _ _ _ rfl (Iv .u8 b.key) (Iv .u8 q.key) rfl rfl false (fun w => by rw [E9.out w, decide_eq_false he]) hm9.out ?_))
              go_roundw
              case rel => exact ⟨j + 1, d, by omega, by go_num, rfl, F2.out.tail, by
                rcases DD.out with h | ⟨h1, h2⟩
                · exact .inl h
                · refine .inr ⟨h1, fun x hx => ?_⟩
                  rw [List.take_succ_eq_append_getElem hkb'.out, List.mem_append] at hx
                  rcases hx with hx | hx
                  · exact h2 x hx
                  · rw [List.mem_singleton, ← BD.out] at hx
                    rw [hx]
                    exact he⟩
              case measure => simp [intOf]; omega
          · obtain rfl : LN = j := by omega
            have ID : Hid ((d < 50000000 ∨ PP = true) ∧ (0 ≤ d ∨ PP = false)) := by
              rcases DD.out with h | ⟨h1, h2⟩
              · exact ⟨.inl (by omega), .inl (by omega)⟩
              · refine ⟨.inl (by omega), .inr ?_⟩
                rw [HPP.out]
                cases hp : resP M S bs q nw
                · rfl
                · obtain ⟨x, hx, hk⟩ := pass_has V2.out hp
                  refine absurd hk (h2 x ?_)
                  rw [List.take_of_length_le (by rw [← HLN.out]; exact Nat.le_refl _)]
                  exact hx
            obtain ⟨y3, hy3⟩ : ∃ x, x = wr := ⟨_, rfl⟩
            rw [← hy3] at F ⊢
            clear hy3 DD HB3 wr c112
            have SG : Hid (St _ _ _ _ _ _ _ _ _ _ _ _ _ _ _) := SF.out.later F.out.bel
            have KR3 : Hid _ := (F.out.bel.block gk gkl.out).trans KR2.out
            have W113 : Hid _ := (F.out.bel.block b11 (Array.getElem?_eq_some_iff.1 W11.out).1).trans W11.out
            have gkl3 : Hid (gk < y3.heap.size) := (Array.getElem?_eq_some_iff.1 KR3.out).1
            clear F SF KR2 W11 gkl
            have c52 : y3.cell? ⟨g5, 2, none⟩ = some (.slice a5 LB cap5) := cell_of_row _ _ _ _ _ _ SG.out.lim
            have HB5 : Hid (HB y3 a5 bs) := by
              obtain ⟨a', cap', e1, e2⟩ := SG.out.bks.shape
              rw [← HLB.out] at e1
              cases e1
              exact e2
            go_wp2_with fail
            have KR2 : Hid _ := KR3.out
            have gkl : Hid _ := gkl3.out
            clear KR3 gkl3
            go_loopw [13, 106] (fun x i wi => ∃ (j : Nat) (d : Int), j ≤ LB ∧ i = .int .i64 j ∧ x = .int .i64 d ∧ Rn y3 [] wi ∧ ((d < 50000000 ∨ PP = true) ∧ (0 ≤ d ∨ PP = false))) (fun _ i _ => LB - (intOf i).toNat)
            case atStart => exact ⟨0, _, Nat.zero_le _, rfl, rfl, Rn.start _, ID.out⟩
            case round =>
              obtain ⟨j, d, hj, rfl, rfl, hF, hd⟩ := hrel
              have F : Hid (Rn _ _ _) := hF
              have DD : Hid _ := hd
              clear hF hd
              by_cases hlt : j < LB
              · obtain ⟨g, o, ea, hg, hr⟩ := HB5.out j (by rw [← HLB.out]; exact hlt)
                have hkb : j < bs.length := by rw [← HLB.out]; exact hlt
                obtain ⟨b, hbd⟩ : ∃ b, b = bs[j]'hkb := ⟨_, rfl⟩
                rw [← hbd] at hr
                have BD : Hid _ := hbd
                have hkb' : Hid _ := hkb
                have hbm : Hid (b ∈ bs) := by show _ ∈ _; rw [hbd]; exact List.getElem_mem _
                have X : Hid (∀ w', Below y3.heap.size y3 w' → w'.rangeAt g (o + j * 11) (bkL b)) := fun w' hb j v hj => (hb.cell (p := ⟨g, _, none⟩) hg).trans (hr j v hj)
                have hi : Hid ((Try.prog.info? 37).map (·.size) = some (bkL b).length) := by show _ = _; rw [bkL_length]; exact infoB
                have hi2 : Hid ((Try.prog.info? 37).map (·.size) = some (bkL b).toArray.size) := by show _ = _; rw [bkL_size]; exact infoB
                have hz2 : Hid ((#[.int .u8 0, .int .u8 0, .int .u8 0, .int .u8 0, .int .u8 0, .int .u8 0, .int .u8 0, .int .u8 0, .int .u8 0, .int .i64 0, .int .i64 0] : Array Value).size = (bkL b).toArray.size) := by show _ = _; rw [bkL_size]; rfl
                have ho1 : Hid ((bkL b).toArray.all (·.oneCell') = true) := by show _ = _; rw [List.all_toArray]; exact bkL_one b
                subst ea
                obtain ⟨W0, hW0⟩ : ∃ x, x = wr := ⟨_, rfl⟩
                rw [← hW0] at F ⊢
                clear hW0 wr hbd hr
                go_wp2_with (first
                  | ((with_reducible refine gLd ?_); refine wpList_load_mid rfl 37 _ rfl g (o + j * 11) rfl (bkL b) _ (X.out _ F.out.bel) Try.underlying37 rfl hi.out ?_)
                  | ((with_reducible refine gSt ?_); refine wpList_put_row rfl 37 _ _ rfl W0.heap.size (bkL b).toArray rfl rfl 37 _ (heap_alloc_new _ _) hi2.out hz2.out ho1.out ?_))
                intro w2 hP2
                have F2 : Hid _ := F.out.newRow hP2
                obtain ⟨gb, hgb⟩ : ∃ x, x = W0.heap.size := ⟨_, rfl⟩
                rw [← hgb] at F2 ⊢
                clear hP2 F hgb hi hi2 hz2 ho1
                have R0 : Hid _ := row_range (F2.out.at (.head _))
                have KY : Hid (w2.rangeAt gb 0 (b.key.map (Value.int .u8))) := range_key R0.out
                have KK : Hid _ := (F2.out.bel.block gk gkl.out).trans KR2.out
                have i9 : Hid ((Try.prog.info? 33).map (·.size) = some (b.key.map (Value.int .u8)).length) := by show _ = _; rw [List.length_map, b.len]; exact infoA9
                have c10 : w2.cell? ⟨gb, 10, none⟩ = some (.int .i64 b.last) := by have := range_last R0.out; rwa [Nat.zero_add] at this
                have E9 : Hid _ := eq9 b.key q.key b.len q.len
                have OB : Hid (OkB nw b) := V2.out.each b hbm.out
                have lb0 : 0 ≤ b.last := OB.out.2.2.1
                have lb1 : b.last ≤ nw := OB.out.2.2.2
                by_cases he : b.key = q.key
                · go_wp2_with (first
                    | ((with_reducible refine gLd ?_); first
                      | refine wpList_load_mid rfl 33 _ rfl gb 0 rfl (b.key.map (Value.int .u8)) _ KY.out Try.underlying33 rfl i9.out ?_
                      | refine wpList_load_row rfl 33 _ rfl gk rfl _ (Iv .u8 q.key) _ _ KK.out Try.underlying33 rfl q9.out ?_)
                    | ((with_reducible refine gEq ?_); refine wpList_eql rfl 33 _ _ _ rfl (Iv .u8 b.key) (Iv .u8 q.key) rfl rfl true (fun w => by rw [E9.out w, decide_eq_true he]) hm9.out ?_))
                  go_roundw
                  case rel => exact ⟨j + 1, nw - b.last, by omega, by go_num, rfl, F2.out.tail, by
                    refine ⟨?_, .inl (by omega)⟩
                    by_cases hc : 50000000 ≤ nw - b.last
                    · exact .inr (by rw [HPP.out]; exact idle_pass V2.out hbm.out he hc)
                    · exact .inl (by omega)⟩
                  case measure => simp [intOf]; omega
                · go_wp2_with (first
                    | ((with_reducible refine gLd ?_); first
                      | refine wpList_load_mid rfl 33 _ rfl gb 0 rfl (b.key.map (Value.int .u8)) _ KY.out Try.underlying33 rfl i9.out ?_
                      | refine wpList_load_row rfl 33 _ rfl gk rfl _ (Iv .u8 q.key) _ _ KK.out Try.underlying33 rfl q9.out ?_)
                    | ((with_reducible refine gEq ?_); refine wpList_eql rfl 33 _ _ _ rfl (Iv .u8 b.key) (Iv .u8 q.key) rfl rfl false (fun w => by rw [E9.out w, decide_eq_false he]) hm9.out ?_))
                  go_roundw
                  case rel => exact ⟨j + 1, d, by omega, by go_num, rfl, F2.out.tail, DD.out⟩
                  case measure => simp [intOf]; omega
              · obtain rfl : LB = j := by omega
                obtain ⟨y4, hy4⟩ : ∃ x, x = wr := ⟨_, rfl⟩
                rw [← hy4] at F ⊢
                clear hy4 wr c52 ID
                have ID : Hid ((d < 50000000 ∨ PP = true) ∧ (0 ≤ d ∨ PP = false)) := DD.out
                clear DD
                have SH : Hid (St _ _ _ _ _ _ _ _ _ _ _ _ _ _ _) := SG.out.later F.out.bel
                have KR4 : Hid _ := (F.out.bel.block gk gkl.out).trans KR2.out
                have W114 : Hid _ := (F.out.bel.block b11 (Array.getElem?_eq_some_iff.1 W113.out).1).trans W113.out
                have gkl4 : Hid (gk < y4.heap.size) := (Array.getElem?_eq_some_iff.1 KR4.out).1
                have HB6 : Hid (HB y4 a5 bs) := HB5.out.later F.out.bel (Nat.le_refl _)
                clear F SG KR2 W113 gkl HB5
                have k50 : y4.cell? ⟨g5, 0, none⟩ = some (.int .i64 M) := cell_of_row _ _ _ _ _ _ SH.out.lim
                have k51 : y4.cell? ⟨g5, 1, none⟩ = some (.int .i64 S) := cell_of_row _ _ _ _ _ _ SH.out.lim
                have k52 : y4.cell? ⟨g5, 2, none⟩ = some (.slice a5 LB cap5) := cell_of_row _ _ _ _ _ _ SH.out.lim
                go_wp2_with ((with_reducible refine gLd ?_); first
                  | refine wpList_load_row rfl 33 _ rfl gk rfl _ (Iv .u8 q.key) _ _ KR4.out Try.underlying33 rfl q9.out ?_)
                refine Calls.mono (KIM.out _ a5 cap5 HB6.out) ?_
                rintro e z1 ⟨g7, cap7, cur7, rfl, hg, hr, htk, hb⟩
                have F7 : Hid _ := (Rn.start y4).gain hb hg hr
                have TK : Hid _ := htk
                clear hg hr htk hb HB6 k50 k51 k52
                go_wp2_with ((with_reducible refine gSt ?_); refine wpList_put_row rfl 28 _ _ rfl z1.heap.size #[.int .i64 M, .int .i64 S2, .slice (some ⟨g7, 0, none⟩) LN cap7] rfl rfl 28 _ (heap_alloc_new _ _) (by kernel_rfl) rfl (all3 rfl rfl rfl) ?_)
                intro z2 hP
                have F8 : Hid _ := F7.out.newRow hP
                obtain ⟨b18, hb18⟩ : ∃ x, x = z1.heap.size := ⟨_, rfl⟩
                rw [← hb18] at F8 ⊢
                clear hP F7 hb18
                have SI : Hid (St _ _ _ _ _ _ _ _ _ _ _ _ _ _ _) := SH.out.later F8.out.bel
                have KR5 : Hid _ := (F8.out.bel.block gk gkl4.out).trans KR4.out
                have W115 : Hid _ := (F8.out.bel.block b11 (Array.getElem?_eq_some_iff.1 W114.out).1).trans W114.out
                have W18 : Hid (z2.heap[b18]? = some (.cells #[.int .i64 M, .int .i64 S2, .slice (some ⟨g7, 0, none⟩) LN cap7] 28)) := F8.out.at (.head _)
                have BR7 : Hid (BR z2 (.slice (some ⟨g7, 0, none⟩) LN cap7) (resL M S bs q nw)) := by
                  have := F8.out.at (.tail _ (.head _))
                  exact .inr ⟨g7, cap7, cur7, by rw [HLN.out], this, by rw [← HLN.out]; exact TK.out⟩
                clear F8 SH KR4 W114 gkl4 TK
                have d0 : z2.cell? ⟨b18, 0, none⟩ = some (.int .i64 M) := cell_of_row _ _ _ _ _ _ W18.out
                have d1 : z2.cell? ⟨b18, 1, none⟩ = some (.int .i64 S2) := cell_of_row _ _ _ _ _ _ W18.out
                have d2 : z2.cell? ⟨b18, 2, none⟩ = some (.slice (some ⟨g7, 0, none⟩) LN cap7) := cell_of_row _ _ _ _ _ _ W18.out
                have e0 : z2.cell? ⟨b11, 0, none⟩ = some (.int .i64 M) := cell_of_row _ _ _ _ _ _ W115.out
                have e1 : z2.cell? ⟨b11, 1, none⟩ = some (.int .i64 S2) := cell_of_row _ _ _ _ _ _ W115.out
                have e2 : z2.cell? ⟨b11, 2, none⟩ = some (.slice a3 LN cap3) := cell_of_row _ _ _ _ _ _ W115.out
                go_upto_region 36 with fail
                go_cut [151] (fun v wx => v = .bool false ∧ wx = z2)
                case first =>
                  cases PP
                  · go_wp2_with fail
                    go_meet
                    exact ⟨rfl, rfl⟩
                  · go_wp2_with fail
                    go_meet
                    exact ⟨rfl, rfl⟩
                case rest =>
                  obtain ⟨rfl, hz2⟩ := hcut
                  rw [hz2]
                  clear hz2 d0 d1 d2 e0 e1 e2
                  go_upto_region 38 with fail
                  go_cut [164] (fun v wx => v = .bool false ∧ wx = z2)
                  case first =>
                    obtain ⟨hi1, hi2⟩ := ID.out
                    by_cases f1 : 50000000 ≤ d
                    · have hp : PP = true := by rcases hi1 with h | h; omega; exact h
                      subst hp
                      go_wp2_with fail
                      go_meet
                      exact ⟨rfl, rfl⟩
                    · by_cases f2 : d < 0
                      · have hp : PP = false := by rcases hi2 with h | h; omega; exact h
                        subst hp
                        go_wp2_with fail
                        go_meet
                        exact ⟨rfl, rfl⟩
                      · go_wp2_with fail
                        go_meet
                        exact ⟨rfl, rfl⟩
                  case rest =>
                    obtain ⟨rfl, hz2⟩ := hcut
                    rw [hz2]
                    clear hz2
                    have d0 : z2.cell? ⟨b18, 0, none⟩ = some (.int .i64 M) := cell_of_row _ _ _ _ _ _ W18.out
                    have d1 : z2.cell? ⟨b18, 1, none⟩ = some (.int .i64 S2) := cell_of_row _ _ _ _ _ _ W18.out
                    have d2 : z2.cell? ⟨b18, 2, none⟩ = some (.slice (some ⟨g7, 0, none⟩) LN cap7) := cell_of_row _ _ _ _ _ _ W18.out
                    go_wp2_with ((with_reducible refine gSt ?_); refine wpList_put_row rfl 28 _ _ rfl g5 #[.int .i64 M, .int .i64 S2, .slice (some ⟨g7, 0, none⟩) LN cap7] rfl rfl 28 _ SI.out.lim (by kernel_rfl) rfl (all3 rfl rfl rfl) ?_)
                    intro z3 hP
                    have A0 : Hid (Ap _ _ _ _ _ _ _ _ _ _ _ _ _ _ _ _ _ _ _ _) := (SI.out.setLim hP BR7.out).ap
                    have KR6 : Hid _ := (keepT_put hP SI.out.lim).blk _ _ _ _ KR5.out (by decide)
                    clear hP SI KR5 d0 d1 d2 W18 W115 BR7
                    have BA : Hid (Below z3.heap.size z3 (z3.alloc (.cells #[.int .i64 nw] 3))) := (Below.refl _ _).alloc (Nat.le_refl _) _
                    have A1 : Hid (Ap _ _ _ _ _ _ _ _ _ _ _ _ _ _ _ _ _ _ _ _) := A0.out.later BA.out
                    have hHl : H.length ≤ 59 := by omega
                    go_wp2_with (first
                      | ((with_reducible refine gBs ?_); refine wpList_oneI rfl _ rfl nw rfl ?_)
                      | ((with_reducible refine gAp ?_); refine wpList_pushR 29 3 1 8 (.int .i64 0) Try.underlying29 (by kernel_rfl) rfl (by decide) (by decide) rfl _ _ rfl w.heap.size u6 H.length (tmL H) rfl A1.out.tms [.int .i64 nw] rfl (fun u hu => by rw [List.mem_singleton] at hu; rw [hu]; rfl) z3.heap.size 1 rfl (heap_alloc_new _ _) (by omega) A1.out.bel.size ?_))
                    intro v6' z4 ho hg
                    have A2 : Hid (Ap _ _ _ _ _ _ _ _ _ _ _ _ _ _ _ _ _ _ _ _) := (A1.out.push6 hg ho).1
                    have KR7 : Hid _ := (A1.out.push6 hg ho).2.blk _ _ _ _ ((keepT_below 0 BA.out).blk _ _ _ _ KR6.out (by decide)) (by decide)
                    clear ho hg A0 A1 BA KR6
                    have BA : Hid (Below z4.heap.size z4 (z4.alloc (.cells (Iv .u8 q.key) 33))) := (Below.refl _ _).alloc (Nat.le_refl _) _
                    have A3 : Hid (Ap _ _ _ _ _ _ _ _ _ _ _ _ _ _ _ _ _ _ _ _) := A2.out.later BA.out
                    go_wp2_with (first
                      | ((with_reducible refine gLd ?_); refine wpList_load_row rfl 33 _ rfl gk rfl _ (Iv .u8 q.key) _ _ KR7.out Try.underlying33 rfl q9.out ?_)
                      | ((with_reducible refine gBs ?_); refine wpList_one9 rfl _ rfl q.key q.len rfl ?_)
                      | ((with_reducible refine gAp ?_); refine wpList_pushR 30 33 9 9 (.agg (Iv .u8 [0, 0, 0, 0, 0, 0, 0, 0, 0])) Try.underlying30 (by kernel_rfl) rfl (by decide) (by decide) rfl _ _ rfl w.heap.size u7 H.length (kyL H) rfl A3.out.kys (q.key.map (Value.int .u8)) (by rw [List.length_map]; exact q.len) (fun u hu => by obtain ⟨y, _, rfl⟩ := List.mem_map.1 hu; rfl) z4.heap.size 1 rfl (heap_alloc_new _ _) (by omega) A3.out.bel.size ?_))
                    intro v7' z5 ho hg
                    have A4 : Hid (Ap _ _ _ _ _ _ _ _ _ _ _ _ _ _ _ _ _ _ _ _) := A3.out.push7 hg ho
                    clear ho hg A2 A3 BA KR7
                    have BA : Hid (Below z5.heap.size z5 (z5.alloc (.cells #[.bool PP] 4))) := (Below.refl _ _).alloc (Nat.le_refl _) _
                    have A5 : Hid (Ap _ _ _ _ _ _ _ _ _ _ _ _ _ _ _ _ _ _ _ _) := A4.out.later BA.out
                    go_wp2_with (first
                      | ((with_reducible refine gBs ?_); refine wpList_oneT rfl _ rfl PP rfl ?_)
                      | ((with_reducible refine gAp ?_); refine wpList_pushR 31 4 1 1 (.bool false) Try.underlying31 (by kernel_rfl) rfl (by decide) (by decide) rfl _ _ rfl w.heap.size u8 H.length (psL H) rfl A5.out.pas [.bool PP] rfl (fun u hu => by rw [List.mem_singleton] at hu; rw [hu]; rfl) z5.heap.size 1 rfl (heap_alloc_new _ _) (by omega) A5.out.bel.size ?_))
                    intro v8' z6 ho hg
                    have A6 : Hid (Ap _ _ _ _ _ _ _ _ _ _ _ _ _ _ _ _ _ _ _ _) := A5.out.push8 hg ho
                    clear ho hg A4 A5 BA
                    have LI : Hid (LInv w gs a n c g5 M (.int .i64 nw) v6' v7' v8' (.int .i64 ((k : Int) - 1)) z6) := by
                      have h1 := hist_next V.out HI.out n1 q
                      have h2 := res_valid V2.out q
                      rw [← HS2.out] at h2
                      have h3 := A6.out.st
                      rw [HPP.out] at h3
                      refine ⟨nw, k - 1, S2, _, _, _, rfl, by rw [show ((k - 1 : Nat) : Int) = (k : Int) - 1 by omega], by rw [List.length_append]; show H.length + 1 + (k - 1) ≤ 59; omega, by omega, by omega, h2, h1, fun x hx => ?_, h3⟩
                      rcases List.mem_append.1 hx with hx | hx
                      · exact KS.out x hx
                      · rw [List.mem_singleton] at hx
                        rw [hx]
                        exact ⟨q.len, by show 0 ≤ nw; omega⟩
                    clear A6
                    go_wp2_with fail
                    go_roundw
                    case rel => exact LI.out
                    case measure => simp [intOf]; omega
    · obtain ⟨HL, hHL⟩ : ∃ x, x = H.length := ⟨_, rfl⟩
      have HHL : Hid _ := hHL
      have HLb : HL ≤ 59 := by omega
      obtain ⟨a6, p6, rfl⟩ : ∃ a p, u6 = .slice a HL p := by
        rcases SR.out.tms.2 with ⟨e1, e2⟩ | ⟨g, cap, cur, e1, _⟩
        · exact ⟨none, 0, by rw [e1, hHL, e2]⟩
        · exact ⟨_, _, by rw [e1, hHL]⟩
      have SZ : Hid (St _ _ _ _ _ _ _ _ _ _ _ _ _ _ _) := SR.out
      clear hHL SR
      obtain ⟨WA, hWA⟩ : ∃ x, x = wr := ⟨_, rfl⟩
      rw [← hWA] at SZ ⊢
      clear hWA wr
      go_wp2_with fail
      go_loopw [180] (fun i wi => ∃ ii : Nat, ii ≤ HL ∧ i = .int .i64 ii ∧ St w gs a n c g5 M S v5 bs (.slice a6 HL p6) u7 u8 H wi) (fun i _ => HL - (intOf i).toNat)
      case atStart => exact ⟨0, Nat.zero_le _, rfl, SZ.out⟩
      case round =>
        obtain ⟨i, hi, rfl, hSi⟩ := hrel
        have SI : Hid (St _ _ _ _ _ _ _ _ _ _ _ _ _ _ _) := hSi
        clear hSi SZ
        by_cases hlt : i < HL
        · have hiH : i < H.length := by rw [← HHL.out]; exact hlt
          obtain ⟨ci, hci⟩ : ∃ x, x = H[i]'hiH := ⟨_, rfl⟩
          have CI : Hid _ := hci
          have ti0 : 0 ≤ ci.t := by rw [hci]; exact (KS.out _ (List.getElem_mem _)).2
          have ti1 : ci.t ≤ now := by rw [hci]; exact HI.out.le _ (List.getElem_mem _)
          have cik : Hid (ci.k.length = 9) := by show _ = _; rw [hci]; exact (KS.out _ (List.getElem_mem _)).1
          clear hci
          obtain ⟨g6, q6, e6, hg6, T6⟩ := own_cells SI.out.tms (by omega) (by decide)
          obtain ⟨g7, q7, e7, hg7, T7⟩ := own_cells SI.out.kys (by omega) (by decide)
          obtain ⟨g8, q8, e8, hg8, T8⟩ := own_cells SI.out.pas (by omega) (by decide)
          clear T6 T7 T8 hg6 hg7 hg8
          rw [← HHL.out] at e6 e7 e8
          cases e6
          subst e7 e8
          go_wp2_with fail
          go_loopw [21, 22] (fun x y wi => ∃ (jj : Nat) (cc : Int), i ≤ jj ∧ jj ≤ HL ∧ y = .int .i64 jj ∧ x = .int .i64 cc ∧ cc = cntTo H i jj ci.k ∧ St w gs a n c g5 M S v5 bs (.slice (some ⟨g6, 0, none⟩) HL p6) (.slice (some ⟨g7, 0, none⟩) HL q7) (.slice (some ⟨g8, 0, none⟩) HL q8) H wi) (fun _ y _ => HL - (intOf y).toNat)
          case atStart => exact ⟨i, 0, Nat.le_refl _, hi, rfl, rfl, (cntTo_start H i ci.k).symm, SI.out⟩
          case round =>
            obtain ⟨j, cc, hij, hj, rfl, rfl, hcc, hSj⟩ := hrel
            have SJ : Hid (St _ _ _ _ _ _ _ _ _ _ _ _ _ _ _) := hSj
            have CC : Hid _ := hcc
            clear hSj SI hcc
            by_cases hlt2 : j < HL
            · have hjH : j < H.length := by rw [← HHL.out]; exact hlt2
              obtain ⟨cj, hcj⟩ : ∃ x, x = H[j]'hjH := ⟨_, rfl⟩
              have CJ : Hid _ := hcj
              have tj1 : cj.t ≤ now := by rw [hcj]; exact HI.out.le _ (List.getElem_mem _)
              have cjk : Hid (cj.k.length = 9) := by show _ = _; rw [hcj]; exact (KS.out _ (List.getElem_mem _)).1
              obtain ⟨_, _, e6, hg6, T6⟩ := own_cells SJ.out.tms (by omega) (by decide)
              obtain ⟨_, _, e7, hg7, T7⟩ := own_cells SJ.out.kys (by omega) (by decide)
              obtain ⟨_, _, e8, hg8, T8⟩ := own_cells SJ.out.pas (by omega) (by decide)
              rw [← HHL.out] at e6 e7 e8
              cases e6
              cases e7
              cases e8
              have c6i : wr.cell? ⟨g6, i, none⟩ = some (.int .i64 ci.t) := by rw [CI.out]; exact tmL_cell T6 i _
              have c6j : wr.cell? ⟨g6, j, none⟩ = some (.int .i64 cj.t) := by rw [hcj]; exact tmL_cell T6 j _
              have c8j : wr.cell? ⟨g8, j, none⟩ = some (.bool cj.p) := by rw [hcj]; exact psL_cell T8 j _
              have K7i : Hid (wr.rangeAt g7 (i * 9) (ci.k.map (Value.int .u8))) := by rw [CI.out]; exact kyL_range T7 (fun c hc => (KS.out c hc).1) i _
              have K7j : Hid (wr.rangeAt g7 (j * 9) (cj.k.map (Value.int .u8))) := by rw [hcj]; exact kyL_range T7 (fun c hc => (KS.out c hc).1) j _
              have HE : Hid _ := hist_end HI.out i j hij hjH
              have CN : Hid _ := cntTo_next H i j ci.k hij hjH
              have cc0 : 0 ≤ cc := by rw [CC.out]; exact (cntTo_le H i j ci.k).1
              have cc1 : cc ≤ HL := by rw [CC.out, HHL.out]; exact (cntTo_le H i j ci.k).2
              clear T6 T7 T8 hg6 hg7 hg8 hcj
              go_wp2_with fail
              have X1 : Hid (∀ w' : World, w' = wr.drew → w'.rangeAt g7 (j * 9) (cj.k.map (Value.int .u8))) := fun w' e => by subst e; exact K7j.out
              have Y1 : Hid (∀ w' : World, w' = wr.drew → w'.rangeAt g7 (i * 9) (ci.k.map (Value.int .u8))) := fun w' e => by subst e; exact K7i.out
              have i9 : Hid ((Try.prog.info? 33).map (·.size) = some (ci.k.map (Value.int .u8)).length) := by show _ = _; rw [List.length_map, cik.out]; exact infoA9
              have j9 : Hid ((Try.prog.info? 33).map (·.size) = some (cj.k.map (Value.int .u8)).length) := by show _ = _; rw [List.length_map, cjk.out]; exact infoA9
              have E9 : Hid _ := eq9 cj.k ci.k cjk.out cik.out
              have hm9 : Hid (Try.prog.eqGuardType Try.prog.depth 33 = false) := by show _ = _; kernel_rfl
              cases hp : cj.p
              · rw [hp] at c8j
                refine wp_region_head 13 mixedLi (by kernel_rfl) ?_
                simp only [List.take_succ_cons, List.take_zero, List.drop_succ_cons, List.drop_zero]
                repeat (go_big_quiet_step (fail))
                refine wpQuiet_nil ?_
                go_wp2_with fail
                have hn : Hid (cntTo H i (j + 1) ci.k = cc) := by
                  show _ = _
                  rw [CN.out, ← CC.out, ← CJ.out]
                  rw [if_neg (fun h => by rw [hp] at h; cases h.2)]; omega
                have h1 := HE.out
                rw [← CI.out, ← CJ.out, hn.out] at h1
                obtain ⟨tij, tno⟩ := h1
                go_quiet (fail)
                go_wp2_with fail
                go_roundw
                case rel => exact ⟨j + 1, cc, by omega, by omega, by go_num, rfl, hn.out.symm, SJ.out.later (below_drews (Below.refl _ _) _)⟩
                case measure => simp [intOf]; omega
              · rw [hp] at c8j
                by_cases he : cj.k = ci.k
                · refine wp_region_head 13 mixedLi (by kernel_rfl) ?_
                  simp only [List.take_succ_cons, List.take_zero, List.drop_succ_cons, List.drop_zero]
                  repeat (go_big_quiet_step (fail))
                  refine wpQuiet_want rfl ?_
                  refine wpQuiet_load_mid rfl 33 _ rfl g7 (j * 9) rfl (cj.k.map (Value.int .u8)) _ X1.out Try.underlying33 rfl j9.out ?_
                  simp only [Act.put, List.setIfInBounds_toArray, List.set_cons_succ, List.set_cons_zero]
                  repeat (go_big_quiet_step (fail))
                  refine wpQuiet_want rfl ?_
                  refine wpQuiet_load_mid rfl 33 _ rfl g7 (i * 9) rfl (ci.k.map (Value.int .u8)) _ Y1.out Try.underlying33 rfl i9.out ?_
                  simp only [Act.put, List.setIfInBounds_toArray, List.set_cons_succ, List.set_cons_zero]
                  refine wpQuiet_nil ?_
                  refine wpList_want (by kernel_rfl) (wpList_eql rfl 33 _ _ _ rfl (Iv .u8 cj.k) (Iv .u8 ci.k) rfl rfl true (fun w => by rw [E9.out w, decide_eq_true he]) hm9.out ?_)
                  simp only [Act.put, List.setIfInBounds_toArray, List.set_cons_succ, List.set_cons_zero]
                  go_wp2_with fail
                  have hn : Hid (cntTo H i (j + 1) ci.k = cc + 1) := by
                    show _ = _
                    rw [CN.out, ← CC.out, ← CJ.out]
                    rw [if_pos ⟨he, hp⟩]
                  have h1 := HE.out
                  rw [← CI.out, ← CJ.out, hn.out] at h1
                  obtain ⟨tij, tno⟩ := h1
                  go_quiet (fail)
                  go_wp2_with fail
                  go_roundw
                  case rel => exact ⟨j + 1, cc + 1, by omega, by omega, by go_num, rfl, hn.out.symm, SJ.out.later (below_drews (Below.refl _ _) _)⟩
                  case measure => simp [intOf]; omega
                · refine wp_region_head 13 mixedLi (by kernel_rfl) ?_
                  simp only [List.take_succ_cons, List.take_zero, List.drop_succ_cons, List.drop_zero]
                  repeat (go_big_quiet_step (fail))
                  refine wpQuiet_want rfl ?_
                  refine wpQuiet_load_mid rfl 33 _ rfl g7 (j * 9) rfl (cj.k.map (Value.int .u8)) _ X1.out Try.underlying33 rfl j9.out ?_
                  simp only [Act.put, List.setIfInBounds_toArray, List.set_cons_succ, List.set_cons_zero]
                  repeat (go_big_quiet_step (fail))
                  refine wpQuiet_want rfl ?_
                  refine wpQuiet_load_mid rfl 33 _ rfl g7 (i * 9) rfl (ci.k.map (Value.int .u8)) _ Y1.out Try.underlying33 rfl i9.out ?_
                  simp only [Act.put, List.setIfInBounds_toArray, List.set_cons_succ, List.set_cons_zero]
                  refine wpQuiet_nil ?_
                  refine wpList_want (by kernel_rfl) (wpList_eql rfl 33 _ _ _ rfl (Iv .u8 cj.k) (Iv .u8 ci.k) rfl rfl false (fun w => by rw [E9.out w, decide_eq_false he]) hm9.out ?_)
                  simp only [Act.put, List.setIfInBounds_toArray, List.set_cons_succ, List.set_cons_zero]
                  go_wp2_with fail
                  have hn : Hid (cntTo H i (j + 1) ci.k = cc) := by
                    show _ = _
                    rw [CN.out, ← CC.out, ← CJ.out]
                    rw [if_neg (fun h => he h.1)]; omega
                  have h1 := HE.out
                  rw [← CI.out, ← CJ.out, hn.out] at h1
                  obtain ⟨tij, tno⟩ := h1
                  go_quiet (fail)
                  go_wp2_with fail
                  go_roundw
                  case rel => exact ⟨j + 1, cc, by omega, by omega, by go_num, rfl, hn.out.symm, SJ.out.later (below_drews (Below.refl _ _) _)⟩
                  case measure => simp [intOf]; omega
            · obtain rfl : HL = j := by omega
              go_wp2_with fail
              go_roundw
              case rel => exact ⟨i + 1, by omega, by go_num, SJ.out⟩
              case measure => simp [intOf]; omega
        · obtain rfl : HL = i := by omega
          go_wp2_with fail
          go_ret
          exact ⟨rfl, SI.out.bel⟩
end Go.Proofs.Ytcjbenmbenkcpaa
