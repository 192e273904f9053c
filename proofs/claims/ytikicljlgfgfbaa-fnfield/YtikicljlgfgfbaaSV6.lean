import Derived.Test.YtikicljlgfgfbaaSV5
/- The model's 'l3Less'. Written by mk_SV6.py. -/
namespace Go.Proofs.Ytikicljlgfgfbaa
open Go.RowKit Go.Lib
set_option linter.unusedVariables false
set_option maxRecDepth 10000 in
set_option maxHeartbeats 8000000 in
theorem less_any (a : List Int) (ha : Dg a) (w : World) :
    Calls Try.prog 32 #[.agg (Iv .i64 a)] w fun e w' => e = .returned (.bool (decide (dN a < pF))) ∧ Below w.heap.size w w' := by
  obtain ⟨t0, t1, t2, t3, t4, t5, t6, t7, t8, t9, t10, t11, t12, t13, t14, t15, rfl⟩ := sixteen a ha.1
  have h0 : 0 ≤ t0 ∧ t0 ≤ 65535 := ha.2 0
  have h1 : 0 ≤ t1 ∧ t1 ≤ 65535 := ha.2 1
  have h2 : 0 ≤ t2 ∧ t2 ≤ 65535 := ha.2 2
  have h3 : 0 ≤ t3 ∧ t3 ≤ 65535 := ha.2 3
  have h4 : 0 ≤ t4 ∧ t4 ≤ 65535 := ha.2 4
  have h5 : 0 ≤ t5 ∧ t5 ≤ 65535 := ha.2 5
  have h6 : 0 ≤ t6 ∧ t6 ≤ 65535 := ha.2 6
  have h7 : 0 ≤ t7 ∧ t7 ≤ 65535 := ha.2 7
  have h8 : 0 ≤ t8 ∧ t8 ≤ 65535 := ha.2 8
  have h9 : 0 ≤ t9 ∧ t9 ≤ 65535 := ha.2 9
  have h10 : 0 ≤ t10 ∧ t10 ≤ 65535 := ha.2 10
  have h11 : 0 ≤ t11 ∧ t11 ≤ 65535 := ha.2 11
  have h12 : 0 ≤ t12 ∧ t12 ≤ 65535 := ha.2 12
  have h13 : 0 ≤ t13 ∧ t13 ≤ 65535 := ha.2 13
  have h14 : 0 ≤ t14 ∧ t14 ≤ 65535 := ha.2 14
  have h15 : 0 ≤ t15 ∧ t15 ≤ 65535 := ha.2 15
  have HV : Hid (dN [t0, t1, t2, t3, t4, t5, t6, t7, t8, t9, t10, t11, t12, t13, t14, t15] = 1 * t0 + 65536 * t1 + 4294967296 * t2 + 281474976710656 * t3 + 18446744073709551616 * t4 + 1208925819614629174706176 * t5 + 79228162514264337593543950336 * t6 + 5192296858534827628530496329220096 * t7 + 340282366920938463463374607431768211456 * t8 + 22300745198530623141535718272648361505980416 * t9 + 1461501637330902918203684832716283019655932542976 * t10 + 95780971304118053647396689196894323976171195136475136 * t11 + 6277101735386680763835789423207666416102355444464034512896 * t12 + 411376139330301510538742295639337626245683966408394965837152256 * t13 + 26959946667150639794667015087019630673637144422540572481103610249216 * t14 + 1766847064778384329583297500742918515827483896875618958121606201292619776 * t15) := by
    show _ = _
    simp only [dN]
    omega
  have hrow : Iv .i64 [t0, t1, t2, t3, t4, t5, t6, t7, t8, t9, t10, t11, t12, t13, t14, t15] = #[.int .i64 t0, .int .i64 t1, .int .i64 t2, .int .i64 t3, .int .i64 t4, .int .i64 t5, .int .i64 t6, .int .i64 t7, .int .i64 t8, .int .i64 t9, .int .i64 t10, .int .i64 t11, .int .i64 t12, .int .i64 t13, .int .i64 t14, .int .i64 t15] := rfl
  rw [HV.out, hrow]
  clear HV ha hrow
  have B1 : Hid (Below w.heap.size w (w.alloc (.cells #[.int .i64 t0, .int .i64 t1, .int .i64 t2, .int .i64 t3, .int .i64 t4, .int .i64 t5, .int .i64 t6, .int .i64 t7, .int .i64 t8, .int .i64 t9, .int .i64 t10, .int .i64 t11, .int .i64 t12, .int .i64 t13, .int .i64 t14, .int .i64 t15] 40))) := (Below.refl _ _).alloc (Nat.le_refl _) _
  by_cases g15 : t15 = 32767
  · subst g15
    go_enter Try.func32, Try.ntmps32
    go_wp2
    refine wp_loop_rounds 15 ?_
    rw [rounds_succ]
    by_cases g14 : t14 = 65535
    · subst g14
      go_wp2_with fail
      rw [rounds_succ]
      by_cases g13 : t13 = 65535
      · subst g13
        go_wp2_with fail
        rw [rounds_succ]
        by_cases g12 : t12 = 65535
        · subst g12
          go_wp2_with fail
          rw [rounds_succ]
          by_cases g11 : t11 = 65535
          · subst g11
            go_wp2_with fail
            rw [rounds_succ]
            by_cases g10 : t10 = 65535
            · subst g10
              go_wp2_with fail
              rw [rounds_succ]
              by_cases g9 : t9 = 65535
              · subst g9
                go_wp2_with fail
                rw [rounds_succ]
                by_cases g8 : t8 = 65535
                · subst g8
                  go_wp2_with fail
                  rw [rounds_succ]
                  by_cases g7 : t7 = 65535
                  · subst g7
                    go_wp2_with fail
                    rw [rounds_succ]
                    by_cases g6 : t6 = 65535
                    · subst g6
                      go_wp2_with fail
                      rw [rounds_succ]
                      by_cases g5 : t5 = 65535
                      · subst g5
                        go_wp2_with fail
                        rw [rounds_succ]
                        by_cases g4 : t4 = 65535
                        · subst g4
                          go_wp2_with fail
                          rw [rounds_succ]
                          by_cases g3 : t3 = 65535
                          · subst g3
                            go_wp2_with fail
                            rw [rounds_succ]
                            by_cases g2 : t2 = 65535
                            · subst g2
                              go_wp2_with fail
                              rw [rounds_succ]
                              by_cases g1 : t1 = 65535
                              · subst g1
                                go_wp2_with fail
                                rw [rounds_succ]
                                by_cases g0 : t0 < 65517
                                · have g0i : t0 < 65517 := g0
                                  go_wp2
                                  go_ret
                                  first | exact ⟨congrArg Ending.returned (congrArg Value.bool (decide_eq_true (by unfold pF; omega)).symm), B1.out⟩ | exact ⟨congrArg Ending.returned (congrArg Value.bool (decide_eq_false (by unfold pF; omega)).symm), B1.out⟩
                                · have g0i : (t0 < 65517) = False := eq_false g0
                                  go_wp2
                                  go_ret
                                  first | exact ⟨congrArg Ending.returned (congrArg Value.bool (decide_eq_true (by unfold pF; omega)).symm), B1.out⟩ | exact ⟨congrArg Ending.returned (congrArg Value.bool (decide_eq_false (by unfold pF; omega)).symm), B1.out⟩
                              · have g1i : (t1 = 65535) = False := eq_false g1
                                go_wp2
                                go_ret
                                first | exact ⟨congrArg Ending.returned (congrArg Value.bool (decide_eq_true (by unfold pF; omega)).symm), B1.out⟩ | exact ⟨congrArg Ending.returned (congrArg Value.bool (decide_eq_false (by unfold pF; omega)).symm), B1.out⟩
                            · have g2i : (t2 = 65535) = False := eq_false g2
                              go_wp2
                              go_ret
                              first | exact ⟨congrArg Ending.returned (congrArg Value.bool (decide_eq_true (by unfold pF; omega)).symm), B1.out⟩ | exact ⟨congrArg Ending.returned (congrArg Value.bool (decide_eq_false (by unfold pF; omega)).symm), B1.out⟩
                          · have g3i : (t3 = 65535) = False := eq_false g3
                            go_wp2
                            go_ret
                            first | exact ⟨congrArg Ending.returned (congrArg Value.bool (decide_eq_true (by unfold pF; omega)).symm), B1.out⟩ | exact ⟨congrArg Ending.returned (congrArg Value.bool (decide_eq_false (by unfold pF; omega)).symm), B1.out⟩
                        · have g4i : (t4 = 65535) = False := eq_false g4
                          go_wp2
                          go_ret
                          first | exact ⟨congrArg Ending.returned (congrArg Value.bool (decide_eq_true (by unfold pF; omega)).symm), B1.out⟩ | exact ⟨congrArg Ending.returned (congrArg Value.bool (decide_eq_false (by unfold pF; omega)).symm), B1.out⟩
                      · have g5i : (t5 = 65535) = False := eq_false g5
                        go_wp2
                        go_ret
                        first | exact ⟨congrArg Ending.returned (congrArg Value.bool (decide_eq_true (by unfold pF; omega)).symm), B1.out⟩ | exact ⟨congrArg Ending.returned (congrArg Value.bool (decide_eq_false (by unfold pF; omega)).symm), B1.out⟩
                    · have g6i : (t6 = 65535) = False := eq_false g6
                      go_wp2
                      go_ret
                      first | exact ⟨congrArg Ending.returned (congrArg Value.bool (decide_eq_true (by unfold pF; omega)).symm), B1.out⟩ | exact ⟨congrArg Ending.returned (congrArg Value.bool (decide_eq_false (by unfold pF; omega)).symm), B1.out⟩
                  · have g7i : (t7 = 65535) = False := eq_false g7
                    go_wp2
                    go_ret
                    first | exact ⟨congrArg Ending.returned (congrArg Value.bool (decide_eq_true (by unfold pF; omega)).symm), B1.out⟩ | exact ⟨congrArg Ending.returned (congrArg Value.bool (decide_eq_false (by unfold pF; omega)).symm), B1.out⟩
                · have g8i : (t8 = 65535) = False := eq_false g8
                  go_wp2
                  go_ret
                  first | exact ⟨congrArg Ending.returned (congrArg Value.bool (decide_eq_true (by unfold pF; omega)).symm), B1.out⟩ | exact ⟨congrArg Ending.returned (congrArg Value.bool (decide_eq_false (by unfold pF; omega)).symm), B1.out⟩
              · have g9i : (t9 = 65535) = False := eq_false g9
                go_wp2
                go_ret
                first | exact ⟨congrArg Ending.returned (congrArg Value.bool (decide_eq_true (by unfold pF; omega)).symm), B1.out⟩ | exact ⟨congrArg Ending.returned (congrArg Value.bool (decide_eq_false (by unfold pF; omega)).symm), B1.out⟩
            · have g10i : (t10 = 65535) = False := eq_false g10
              go_wp2
              go_ret
              first | exact ⟨congrArg Ending.returned (congrArg Value.bool (decide_eq_true (by unfold pF; omega)).symm), B1.out⟩ | exact ⟨congrArg Ending.returned (congrArg Value.bool (decide_eq_false (by unfold pF; omega)).symm), B1.out⟩
          · have g11i : (t11 = 65535) = False := eq_false g11
            go_wp2
            go_ret
            first | exact ⟨congrArg Ending.returned (congrArg Value.bool (decide_eq_true (by unfold pF; omega)).symm), B1.out⟩ | exact ⟨congrArg Ending.returned (congrArg Value.bool (decide_eq_false (by unfold pF; omega)).symm), B1.out⟩
        · have g12i : (t12 = 65535) = False := eq_false g12
          go_wp2
          go_ret
          first | exact ⟨congrArg Ending.returned (congrArg Value.bool (decide_eq_true (by unfold pF; omega)).symm), B1.out⟩ | exact ⟨congrArg Ending.returned (congrArg Value.bool (decide_eq_false (by unfold pF; omega)).symm), B1.out⟩
      · have g13i : (t13 = 65535) = False := eq_false g13
        go_wp2
        go_ret
        first | exact ⟨congrArg Ending.returned (congrArg Value.bool (decide_eq_true (by unfold pF; omega)).symm), B1.out⟩ | exact ⟨congrArg Ending.returned (congrArg Value.bool (decide_eq_false (by unfold pF; omega)).symm), B1.out⟩
    · have g14i : (t14 = 65535) = False := eq_false g14
      go_wp2
      go_ret
      first | exact ⟨congrArg Ending.returned (congrArg Value.bool (decide_eq_true (by unfold pF; omega)).symm), B1.out⟩ | exact ⟨congrArg Ending.returned (congrArg Value.bool (decide_eq_false (by unfold pF; omega)).symm), B1.out⟩
  · have g15i : (t15 = 32767) = False := eq_false g15
    by_cases gl : t15 < 32767
    · go_enter Try.func32, Try.ntmps32
      go_wp2
      go_ret
      first | exact ⟨congrArg Ending.returned (congrArg Value.bool (decide_eq_true (by unfold pF; omega)).symm), B1.out⟩ | exact ⟨congrArg Ending.returned (congrArg Value.bool (decide_eq_false (by unfold pF; omega)).symm), B1.out⟩
    · have gli : (t15 < 32767) = False := eq_false gl
      go_enter Try.func32, Try.ntmps32
      go_wp2
      go_ret
      first | exact ⟨congrArg Ending.returned (congrArg Value.bool (decide_eq_true (by unfold pF; omega)).symm), B1.out⟩ | exact ⟨congrArg Ending.returned (congrArg Value.bool (decide_eq_false (by unfold pF; omega)).symm), B1.out⟩
end Go.Proofs.Ytikicljlgfgfbaa
