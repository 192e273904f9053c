/- 'L5Valid'. -/
import Derived.Test.YtcjbenmbenkcpaaLiE
namespace Go.Proofs.Ytcjbenmbenkcpaa
open Go.RowKit
set_option linter.unusedVariables false
def RetB (w : World) (V : Prop) (e : Ending) (w' : World) : Prop := ∃ r : Bool, e = .returned (.bool r) ∧ (r = true ↔ V) ∧ Below w.heap.size w w'
theorem noV {V : Prop} (h : ¬ V) : (false = true ↔ V) := ⟨fun e => (by cases e), fun v => absurd v h⟩
set_option maxRecDepth 10000 in
set_option maxHeartbeats 4000000 in
theorem l5Valid_any (bs : List Bk) (n : Nat) (hn : bs.length = n) (a : Option Addr) (cap : Nat) (m s now : Int) (w : World) (ha : HB w a bs) (hn2 : n ≤ 1048576) :
    Calls Try.prog 16 #[.agg #[.int .i64 m, .int .i64 s, .slice a n cap], .int .i64 now] w fun e w' => RetB w (ValidP m s bs now) e w' := by
  have HA : Hid _ := ha
  have HN : Hid _ := hn
  clear ha hn
  have HW : Hid (Below w.heap.size w (w.alloc (.cells #[.int .i64 m, .int .i64 s, .slice a n cap] 28))) := (Below.refl _ _).alloc (Nat.le_refl _) _
  go_enter Try.func16, Try.ntmps16
  by_cases c0 : now < 0
  · go_wp2
    go_ret
    exact ⟨false, rfl, noV fun h => absurd h.now0 (by omega), HW.out⟩
  by_cases c1 : m < 1
  · go_wp2
    go_ret
    exact ⟨false, rfl, noV fun h => absurd h.m1 (by omega), HW.out⟩
  by_cases c2 : 4096 < m
  · go_wp2
    go_ret
    exact ⟨false, rfl, noV fun h => absurd h.m2 (by omega), HW.out⟩
  by_cases c3 : m < (n : Int)
  · go_wp2
    go_ret
    exact ⟨false, rfl, noV fun h => absurd h.len (by have := HN.out; omega), HW.out⟩
  by_cases c4 : s < 0
  · go_wp2
    go_ret
    exact ⟨false, rfl, noV fun h => absurd h.s0 (by omega), HW.out⟩
  by_cases c5 : now < s
  · go_wp2
    go_ret
    exact ⟨false, rfl, noV fun h => absurd h.s1 (by omega), HW.out⟩
  have hm9 : Hid (Try.prog.eqGuardType Try.prog.depth 33 = false) := by show _ = _; kernel_rfl
  go_wp2_with fail
  go_loopw [42] (fun i wr => ∃ k : Nat, k ≤ n ∧ i = .int .i64 k ∧ Rn w [(w.heap.size, #[.int .i64 m, .int .i64 s, .slice a n cap], 28)] wr ∧ (∀ b ∈ bs.take k, OkB now b) ∧ (bs.take k).Pairwise (fun x y => x.key ≠ y.key)) (fun i _ => n - (intOf i).toNat)
  case atStart => exact ⟨0, Nat.zero_le _, rfl, (Rn.start w).alloc _ _, fun b h => absurd h (by simp), by simp⟩
  case round =>
    obtain ⟨k, hk, rfl, hF, hok, hnd⟩ := hrel
    have F : Hid _ := hF
    have OK : Hid _ := hok
    have ND : Hid _ := hnd
    clear hF hok hnd HW
    by_cases hlt : k < n
    · obtain ⟨g, o, ea, hg, hr⟩ := HA.out k (by rw [HN.out]; exact hlt)
      have hkb : k < bs.length := by rw [HN.out]; exact hlt
      obtain ⟨b, hbd⟩ : ∃ b, b = bs[k]'hkb := ⟨_, rfl⟩
      rw [← hbd] at hr
      have BD : Hid _ := hbd
      have hbm : Hid (b ∈ bs) := by show _ ∈ _; rw [hbd]; exact List.getElem_mem _
      have X : Hid (∀ w', Below w.heap.size w w' → w'.rangeAt g (o + k * 11) (bkL b)) := fun w' hb j v hj => (hb.cell (p := ⟨g, _, none⟩) hg).trans (hr j v hj)
      have hi : Hid ((Try.prog.info? 37).map (·.size) = some (bkL b).length) := by show _ = _; rw [bkL_length]; exact infoB
      have hi2 : Hid ((Try.prog.info? 37).map (·.size) = some (bkL b).toArray.size) := by show _ = _; rw [bkL_size]; exact infoB
      have hz2 : Hid ((#[.int .u8 0, .int .u8 0, .int .u8 0, .int .u8 0, .int .u8 0, .int .u8 0, .int .u8 0, .int .u8 0, .int .u8 0, .int .i64 0, .int .i64 0] : Array Value).size = (bkL b).toArray.size) := by show _ = _; rw [bkL_size]; rfl
      have ho1 : Hid ((bkL b).toArray.all (·.oneCell') = true) := by show _ = _; rw [List.all_toArray]; exact bkL_one b
      subst ea
      obtain ⟨W0, hW0⟩ : ∃ x, x = wr := ⟨_, rfl⟩
      rw [← hW0] at F ⊢
      clear hW0 wr hbd hr
      go_wp2_with (first
        | refine wpList_load_mid rfl 37 _ rfl g (o + k * 11) rfl (bkL b) _ (X.out _ F.out.bel) Try.underlying37 rfl hi.out ?_
        | refine wpList_put_row rfl 37 _ _ rfl W0.heap.size (bkL b).toArray rfl rfl 37 _ (heap_alloc_new _ _) hi2.out hz2.out ho1.out ?_)
      intro w2 hP2
      have F2 : Hid _ := F.out.newRow hP2
      obtain ⟨gb, hgb⟩ : ∃ x, x = W0.heap.size := ⟨_, rfl⟩
      rw [← hgb] at F2 ⊢
      clear hP2 F hgb hi hi2 hz2 ho1
      have R0 : Hid _ := row_range (F2.out.at (.head _))
      have c9 : w2.cell? ⟨gb, 9, none⟩ = some (.int .i64 b.tok) := by have := range_tok R0.out; rwa [Nat.zero_add] at this
      have c10 : w2.cell? ⟨gb, 10, none⟩ = some (.int .i64 b.last) := by have := range_last R0.out; rwa [Nat.zero_add] at this
      by_cases d0 : b.tok < 0
      · go_wp2
        go_ret
        exact ⟨false, rfl, noV fun h => absurd (h.each b hbm.out).1 (by omega), F2.out.bel⟩
      by_cases d1 : 250000000 < b.tok
      · go_wp2
        go_ret
        exact ⟨false, rfl, noV fun h => absurd (h.each b hbm.out).2.1 (by omega), F2.out.bel⟩
      by_cases d2 : b.last < 0
      · go_wp2
        go_ret
        exact ⟨false, rfl, noV fun h => absurd (h.each b hbm.out).2.2.1 (by omega), F2.out.bel⟩
      by_cases d3 : now < b.last
      · go_wp2
        go_ret
        exact ⟨false, rfl, noV fun h => absurd (h.each b hbm.out).2.2.2 (by omega), F2.out.bel⟩
      have OKb : Hid (OkB now b) := ⟨by omega, by omega, by omega, by omega⟩
      go_wp2_with fail
      go_loopw [7] (fun i wi => ∃ j : Nat, j ≤ k ∧ i = .int .i64 j ∧ Rn w [(gb, (bkL b).toArray, 37), (w.heap.size, #[.int .i64 m, .int .i64 s, .slice (some ⟨g, o, none⟩) n cap], 28)] wi ∧ ∀ b' ∈ bs.take j, b'.key ≠ b.key) (fun i _ => k - (intOf i).toNat)
      case atStart => exact ⟨0, Nat.zero_le _, rfl, F2.out, fun b' h => absurd h (by simp)⟩
      case round =>
        obtain ⟨j, hj, rfl, hF3, hdj⟩ := hrel
        have F3 : Hid _ := hF3
        have DJ : Hid _ := hdj
        clear hF3 hdj F2 R0 c9 c10
        by_cases hlt2 : j < k
        · obtain ⟨g', o', ea', hg', hr'⟩ := HA.out j (by rw [HN.out]; omega)
          have hjb : j < bs.length := by rw [HN.out]; omega
          obtain ⟨rfl, rfl⟩ : g = g' ∧ o = o' := by cases ea'; exact ⟨rfl, rfl⟩
          obtain ⟨b', hbd'⟩ : ∃ b', b' = bs[j]'hjb := ⟨_, rfl⟩
          rw [← hbd'] at hr'
          have BD' : Hid _ := hbd'
          have hjb' : Hid _ := hjb
          have X1 : Hid (∀ w' : World, w' = wr.drew → w'.rangeAt g (o + j * 11) (b'.key.map (Value.int .u8))) := fun w' e => by subst e; exact range_key fun i v hi => (F3.out.bel.cell (p := ⟨g, _, none⟩) hg).trans (hr' i v hi)
          have Y1 : Hid (∀ w' : World, w' = wr.drew → w'.rangeAt gb 0 (b.key.map (Value.int .u8))) := fun w' e => by subst e; exact range_key (row_range (F3.out.at (.head _)))
          have c2 : wr.cell? ⟨w.heap.size, 2, none⟩ = some (.slice (some ⟨g, o, none⟩) n cap) := cell_of_row _ _ _ _ _ _ (F3.out.at (.tail _ (.head _)))
          have i9 : Hid ((Try.prog.info? 33).map (·.size) = some (b'.key.map (Value.int .u8)).length) := by show _ = _; rw [List.length_map, b'.len]; exact infoA9
          have j9 : Hid ((Try.prog.info? 33).map (·.size) = some (b.key.map (Value.int .u8)).length) := by show _ = _; rw [List.length_map, b.len]; exact infoA9
          have E9 : Hid _ := eq9 b'.key b.key b'.len b.len
          have hjn : j < n := by omega
          clear hr' hbd' ea'
          go_wp2_with fail
          refine wp_region_head 8 mixedLi (by kernel_rfl) ?_
          simp only [List.take_succ_cons, List.take_zero, List.drop_succ_cons, List.drop_zero]
          repeat (go_big_quiet_step (fail))
          refine wpQuiet_load_mid rfl 33 _ rfl g (o + j * 11) rfl (b'.key.map (Value.int .u8)) _ X1.out Try.underlying33 rfl i9.out ?_
          simp only [Act.put, List.setIfInBounds_toArray, List.set_cons_succ, List.set_cons_zero]
          repeat (go_big_quiet_step (fail))
          refine wpQuiet_load_mid rfl 33 _ rfl gb 0 rfl (b.key.map (Value.int .u8)) _ Y1.out Try.underlying33 rfl j9.out ?_
          simp only [Act.put, List.setIfInBounds_toArray, List.set_cons_succ, List.set_cons_zero]
          refine wpQuiet_nil ?_
          by_cases he : b'.key = b.key
          · go_wp2_with (refine wpList_eql rfl 33 _ _ _ rfl (Iv .u8 b'.key) (Iv .u8 b.key) rfl rfl true (fun w => by rw [E9.out w, decide_eq_true he]) hm9.out ?_)
            go_ret
            refine ⟨false, rfl, noV fun h => ?_, below_drews F3.out.bel 1⟩
            exact (List.pairwise_iff_getElem.1 h.nd j k hjb'.out (by rw [HN.out]; exact hlt) hlt2) (by rw [← BD'.out, ← BD.out]; exact he)
          · go_wp2_with (refine wpList_eql rfl 33 _ _ _ rfl (Iv .u8 b'.key) (Iv .u8 b.key) rfl rfl false (fun w => by rw [E9.out w, decide_eq_false he]) hm9.out ?_)
            go_roundw
            case rel => exact ⟨j + 1, by omega, by go_num, F3.out.drew, fun x hx => by
              rw [List.take_succ_eq_append_getElem hjb'.out, List.mem_append] at hx
              rcases hx with hx | hx
              · exact DJ.out x hx
              · rw [List.mem_singleton, ← BD'.out] at hx
                rw [hx]
                exact he⟩
            case measure => simp [intOf]; omega
        · obtain rfl : j = k := by omega
          go_wp2_with fail
          go_roundw
          case rel =>
            refine ⟨j + 1, by omega, by go_num, F3.out.tail, fun x hx => ?_, ?_⟩
            · rw [List.take_succ_eq_append_getElem hkb, List.mem_append] at hx
              rcases hx with hx | hx
              · exact OK.out x hx
              · rw [List.mem_singleton, ← BD.out] at hx
                rw [hx]
                exact OKb.out
            · rw [List.take_succ_eq_append_getElem hkb, List.pairwise_append]
              refine ⟨ND.out, by simp, fun x hx y hy => ?_⟩
              rw [List.mem_singleton, ← BD.out] at hy
              rw [hy]
              exact DJ.out x hx
          case measure => simp [intOf]; omega
    · obtain rfl : k = n := by omega
      go_wp2_with fail
      go_ret
      have e : bs.take k = bs := List.take_of_length_le (by rw [HN.out]; exact Nat.le_refl _)
      have o1 := OK.out
      have o2 := ND.out
      rw [e] at o1 o2
      exact ⟨true, rfl, ⟨fun _ => ⟨by omega, by omega, by omega, by rw [HN.out]; omega, by omega, by omega, o1, o2⟩, fun _ => rfl⟩, F.out.bel⟩
end Go.Proofs.Ytcjbenmbenkcpaa
