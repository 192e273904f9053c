/- Regions of FnSealing. Written by mk_FS.py. -/
import Derived.Test.YtlbnmiinokkkgaaDoorFS2Z
namespace Go.Proofs.YtlbnmiinokkkgaaDoor
open Go.RowKit
set_option linter.unusedVariables false
def fs24o0 : Oper := { dst := some 104, op := Op.load 22 (Operand.tmp 15), type := 22, pos := "laws.go:613", after := #[], guard := none }
def fs24o1 : Oper := { dst := some 105, op := Op.load 23 (Operand.tmp 11), type := 23, pos := "laws.go:613", after := #[], guard := none }
def fs24o2 : Oper := { dst := some 106, op := Op.move (Operand.tmp 6), type := 24, pos := "laws.go:613", after := #[], guard := none }
def fs24o3 : Oper := { dst := some 107, op := Op.call { callee := Callee.value (Operand.func 29), args := #[Operand.tmp 106], argTypes := #[24] }, type := 24, pos := "laws.go:613", after := #[{ on := 2, ground := Ground.data }], guard := none }
def fs24o4 : Oper := { dst := some 108, op := Op.move (Operand.tmp 7), type := 24, pos := "laws.go:613", after := #[], guard := none }
def fs24o5 : Oper := { dst := some 109, op := Op.call { callee := Callee.value (Operand.func 29), args := #[Operand.tmp 108], argTypes := #[24] }, type := 24, pos := "laws.go:613", after := #[{ on := 4, ground := Ground.data }, { on := 3, ground := Ground.chain }], guard := none }
def fs24o6 : Oper := { dst := some 110, op := Op.call { callee := Callee.value (Operand.func 12), args := #[Operand.tmp 104, Operand.tmp 105, Operand.tmp 107, Operand.tmp 109], argTypes := #[22, 23, 24, 24] }, type := 24, pos := "laws.go:613", after := #[{ on := 0, ground := Ground.data }, { on := 1, ground := Ground.data }, { on := 3, ground := Ground.data }, { on := 5, ground := Ground.data }, { on := 5, ground := Ground.chain }], guard := none }
def fs24o7 : Oper := { dst := some 16, op := Op.assign (Operand.tmp 110), type := 24, pos := "laws.go:613", after := #[{ on := 6, ground := Ground.data }, { on := 6, ground := Ground.chain }, { on := 0, ground := Ground.phase }, { on := 1, ground := Ground.phase }, { on := 2, ground := Ground.phase }, { on := 3, ground := Ground.phase }, { on := 4, ground := Ground.phase }, { on := 5, ground := Ground.phase }, { on := 6, ground := Ground.phase }], guard := none }
def fs24ops : Array Oper := #[fs24o0, fs24o1, fs24o2, fs24o3, fs24o4, fs24o5, fs24o6, fs24o7]
def fs24fr (K2 S2 text E S : List Int) (b15 b11 gt n1 ct : Nat) (ev q0 q2 q3 q4 q5 q8 q9 q10 q12 q13 q14 q25 q26 q27 q28 q29 q30 q31 q32 q33 q34 q35 q36 q37 q38 q39 q40 q41 q42 q43 q44 q45 q46 q47 q48 q49 q50 q51 q52 q53 q54 q55 q56 q57 q58 q59 q60 q61 q62 q63 q64 q65 q66 q67 q68 q69 q70 q71 q72 q73 q74 q75 q76 q77 q78 q79 q80 q81 q82 q83 q84 q85 q86 q87 q88 q89 q90 q91 q92 q93 q94 q95 q96 q97 q98 q99 q100 q101 q102 q103 : Value) (y16 y104 y105 y106 y107 y108 y109 y110 : Value) : Act := { tmps := #[q0, undef, q2, q3, q4, q5, .slice (some ⟨gt, 0, none⟩) n1 ct, ev, q8, q9, q10, .pointer (some ⟨b11, 0, none⟩), q12, q13, q14, .pointer (some ⟨b15, 0, none⟩), y16, undef, undef, undef, undef, undef, undef, undef, undef, q25, q26, q27, q28, q29, q30, q31, q32, q33, q34, q35, q36, q37, q38, q39, q40, q41, q42, q43, q44, q45, q46, q47, q48, q49, q50, q51, q52, q53, q54, q55, q56, q57, q58, q59, q60, q61, q62, q63, q64, q65, q66, q67, q68, q69, q70, q71, q72, q73, q74, q75, q76, q77, q78, q79, q80, q81, q82, q83, q84, q85, q86, q87, q88, q89, q90, q91, q92, q93, q94, q95, q96, q97, q98, q99, q100, q101, q102, q103, y104, y105, y106, y107, y108, y109, y110, undef, undef, undef, undef, undef, undef, undef, undef, undef, undef, undef, undef, undef, undef, undef, undef, undef, undef, undef, undef, undef, undef, undef, undef, undef, undef, undef, undef, undef, undef, undef, undef, undef, undef, undef, undef, undef, undef, undef, undef, undef, undef, undef, undef, undef, undef, undef, undef, undef, undef, undef, undef, undef, undef, undef, undef, undef, undef, undef, undef, undef, undef, undef, undef, undef, undef, undef, undef, undef, undef, undef, undef, undef, undef, undef, undef, undef, undef, undef, undef, undef], defers := [] }
structure fs24In (K2 S2 text E S : List Int) (b15 b11 gt n1 ct : Nat) (ev q0 q2 q3 q4 q5 q8 q9 q10 q12 q13 q14 q25 q26 q27 q28 q29 q30 q31 q32 q33 q34 q35 q36 q37 q38 q39 q40 q41 q42 q43 q44 q45 q46 q47 q48 q49 q50 q51 q52 q53 q54 q55 q56 q57 q58 q59 q60 q61 q62 q63 q64 q65 q66 q67 q68 q69 q70 q71 q72 q73 q74 q75 q76 q77 q78 q79 q80 q81 q82 q83 q84 q85 q86 q87 q88 q89 q90 q91 q92 q93 q94 q95 q96 q97 q98 q99 q100 q101 q102 q103 : Value) (W : World) (listed : Array Bool) (w : World) (y16 y104 y105 y106 y107 y108 y109 y110 : Value) : Prop where
  size : listed.size = 8
  bel : Below W.heap.size W w
  p0 : Lb listed 0 = true → y104 = .agg (Iv .u8 K2)
  p1 : Lb listed 1 = true → y105 = .agg (Iv .u8 S2)
  p2 : Lb listed 2 = true → y106 = .slice (some ⟨gt, 0, none⟩) n1 ct
  p3 : Lb listed 3 = true → OwnN .u8 5 W.heap.size w y107 text
  p4 : Lb listed 4 = true → y108 = ev
  p5 : Lb listed 5 = true → OwnN .u8 5 W.heap.size w y109 E
  p6 : Lb listed 6 = true → OwnN .u8 5 W.heap.size w y110 S
  p7 : Lb listed 7 = true → Lb listed 6 = true ∧ y16 = y110
def fs24Inv (K2 S2 text E S : List Int) (b15 b11 gt n1 ct : Nat) (ev q0 q2 q3 q4 q5 q8 q9 q10 q12 q13 q14 q25 q26 q27 q28 q29 q30 q31 q32 q33 q34 q35 q36 q37 q38 q39 q40 q41 q42 q43 q44 q45 q46 q47 q48 q49 q50 q51 q52 q53 q54 q55 q56 q57 q58 q59 q60 q61 q62 q63 q64 q65 q66 q67 q68 q69 q70 q71 q72 q73 q74 q75 q76 q77 q78 q79 q80 q81 q82 q83 q84 q85 q86 q87 q88 q89 q90 q91 q92 q93 q94 q95 q96 q97 q98 q99 q100 q101 q102 q103 : Value) (W : World) (listed : Array Bool) (a : Act) (w : World) : Prop := ∃ y16 y104 y105 y106 y107 y108 y109 y110, a = fs24fr K2 S2 text E S b15 b11 gt n1 ct ev q0 q2 q3 q4 q5 q8 q9 q10 q12 q13 q14 q25 q26 q27 q28 q29 q30 q31 q32 q33 q34 q35 q36 q37 q38 q39 q40 q41 q42 q43 q44 q45 q46 q47 q48 q49 q50 q51 q52 q53 q54 q55 q56 q57 q58 q59 q60 q61 q62 q63 q64 q65 q66 q67 q68 q69 q70 q71 q72 q73 q74 q75 q76 q77 q78 q79 q80 q81 q82 q83 q84 q85 q86 q87 q88 q89 q90 q91 q92 q93 q94 q95 q96 q97 q98 q99 q100 q101 q102 q103 y16 y104 y105 y106 y107 y108 y109 y110 ∧ fs24In K2 S2 text E S b15 b11 gt n1 ct ev q0 q2 q3 q4 q5 q8 q9 q10 q12 q13 q14 q25 q26 q27 q28 q29 q30 q31 q32 q33 q34 q35 q36 q37 q38 q39 q40 q41 q42 q43 q44 q45 q46 q47 q48 q49 q50 q51 q52 q53 q54 q55 q56 q57 q58 q59 q60 q61 q62 q63 q64 q65 q66 q67 q68 q69 q70 q71 q72 q73 q74 q75 q76 q77 q78 q79 q80 q81 q82 q83 q84 q85 q86 q87 q88 q89 q90 q91 q92 q93 q94 q95 q96 q97 q98 q99 q100 q101 q102 q103 W listed w y16 y104 y105 y106 y107 y108 y109 y110
theorem fs24ready {listed : Array Bool} (hs : listed.size = 8) (hr : Region.ready .any fs24ops listed = []) {i : Nat} (o : Oper) (ho : fs24ops[i]? = some o) (hi : i < 8) (hdep : ∀ e ∈ o.after, Region.binds .any e = true → Lb listed e.on = true) : Lb listed i = true := by
  cases hb : Lb listed i with
  | true => rfl
  | false =>
    have h1 : listed.getD i true = false := by
      have hlt : i < listed.size := by omega
      simp only [Lb, Array.getD, hlt, dif_pos] at hb ⊢
      exact hb
    have : i ∈ Region.ready .any fs24ops listed := mem_ready.2 ⟨h1, o, ho, fun e he hbd => hdep e he hbd⟩
    rw [hr] at this
    cases this
theorem fs24all {listed : Array Bool} (hs : listed.size = 8) (hr : Region.ready .any fs24ops listed = []) : Lb listed 0 = true ∧ Lb listed 1 = true ∧ Lb listed 2 = true ∧ Lb listed 3 = true ∧ Lb listed 4 = true ∧ Lb listed 5 = true ∧ Lb listed 6 = true ∧ Lb listed 7 = true := by
  have l0 := fs24ready hs hr (i := 0) fs24o0 rfl (by omega) (by unfold fs24o0; simp only [List.mem_toArray, List.not_mem_nil, false_implies, implies_true])
  have l1 := fs24ready hs hr (i := 1) fs24o1 rfl (by omega) (by unfold fs24o1; simp only [List.mem_toArray, List.not_mem_nil, false_implies, implies_true])
  have l2 := fs24ready hs hr (i := 2) fs24o2 rfl (by omega) (by unfold fs24o2; simp only [List.mem_toArray, List.not_mem_nil, false_implies, implies_true])
  have l3 := fs24ready hs hr (i := 3) fs24o3 rfl (by omega) (by unfold fs24o3; simp only [List.mem_toArray, List.mem_cons, List.not_mem_nil, or_false, forall_eq, l2, implies_true])
  have l4 := fs24ready hs hr (i := 4) fs24o4 rfl (by omega) (by unfold fs24o4; simp only [List.mem_toArray, List.not_mem_nil, false_implies, implies_true])
  have l5 := fs24ready hs hr (i := 5) fs24o5 rfl (by omega) (by unfold fs24o5; simp only [List.mem_toArray, List.mem_cons, List.not_mem_nil, or_false, forall_eq_or_imp, forall_eq, l3, l4, implies_true, and_self])
  have l6 := fs24ready hs hr (i := 6) fs24o6 rfl (by omega) (by unfold fs24o6; simp only [List.mem_toArray, List.mem_cons, List.not_mem_nil, or_false, forall_eq_or_imp, forall_eq, l0, l1, l3, l5, implies_true, and_self])
  have l7 := fs24ready hs hr (i := 7) fs24o7 rfl (by omega) (by unfold fs24o7; simp only [List.mem_toArray, List.mem_cons, List.not_mem_nil, or_false, forall_eq_or_imp, forall_eq, l0, l1, l2, l3, l4, l5, l6, implies_true, and_self])
  exact ⟨l0, l1, l2, l3, l4, l5, l6, l7⟩
theorem fs24dep {listed : Array Bool} {i : Nat} (h : i ∈ Region.ready .any fs24ops listed) (o : Oper) (ho : fs24ops[i]? = some o) : listed.getD i true = false ∧ ∀ e ∈ o.after, Region.binds .any e = true → Lb listed e.on = true := by
  obtain ⟨h1, o', ho', hd⟩ := mem_ready.1 h
  rw [ho] at ho'
  cases ho'
  exact ⟨h1, hd⟩
set_option maxRecDepth 10000 in
set_option maxHeartbeats 2000000 in
theorem fs24s0 {K2 S2 text E S : List Int} {b15 b11 gt n1 ct : Nat} {ev q0 q2 q3 q4 q5 q8 q9 q10 q12 q13 q14 q25 q26 q27 q28 q29 q30 q31 q32 q33 q34 q35 q36 q37 q38 q39 q40 q41 q42 q43 q44 q45 q46 q47 q48 q49 q50 q51 q52 q53 q54 q55 q56 q57 q58 q59 q60 q61 q62 q63 q64 q65 q66 q67 q68 q69 q70 q71 q72 q73 q74 q75 q76 q77 q78 q79 q80 q81 q82 q83 q84 q85 q86 q87 q88 q89 q90 q91 q92 q93 q94 q95 q96 q97 q98 q99 q100 q101 q102 q103 : Value} {W : World} {listed : Array Bool} {w : World} {y16 y104 y105 y106 y107 y108 y109 y110 : Value} {Q : Exit → Act → World → Prop} (h : fs24In K2 S2 text E S b15 b11 gt n1 ct ev q0 q2 q3 q4 q5 q8 q9 q10 q12 q13 q14 q25 q26 q27 q28 q29 q30 q31 q32 q33 q34 q35 q36 q37 q38 q39 q40 q41 q42 q43 q44 q45 q46 q47 q48 q49 q50 q51 q52 q53 q54 q55 q56 q57 q58 q59 q60 q61 q62 q63 q64 q65 q66 q67 q68 q69 q70 q71 q72 q73 q74 q75 q76 q77 q78 q79 q80 q81 q82 q83 q84 q85 q86 q87 q88 q89 q90 q91 q92 q93 q94 q95 q96 q97 q98 q99 q100 q101 q102 q103 W listed w y16 y104 y105 y106 y107 y108 y109 y110) (hi : 0 ∈ Region.ready .any fs24ops listed) (hrow : W.heap[b15]? = some (.cells (Iv .u8 K2) 22)) (hblt : b15 < W.heap.size) (hinf : (Tryd.prog.info? 22).map (·.size) = some ((Iv .u8 K2)).size) :
    wpList Tryd.prog fs24ops (atEnd (fs24Inv K2 S2 text E S b15 b11 gt n1 ct ev q0 q2 q3 q4 q5 q8 q9 q10 q12 q13 q14 q25 q26 q27 q28 q29 q30 q31 q32 q33 q34 q35 q36 q37 q38 q39 q40 q41 q42 q43 q44 q45 q46 q47 q48 q49 q50 q51 q52 q53 q54 q55 q56 q57 q58 q59 q60 q61 q62 q63 q64 q65 q66 q67 q68 q69 q70 q71 q72 q73 q74 q75 q76 q77 q78 q79 q80 q81 q82 q83 q84 q85 q86 q87 q88 q89 q90 q91 q92 q93 q94 q95 q96 q97 q98 q99 q100 q101 q102 q103 W (listed.setIfInBounds 0 true)) Q) [fs24o0] (fs24fr K2 S2 text E S b15 b11 gt n1 ct ev q0 q2 q3 q4 q5 q8 q9 q10 q12 q13 q14 q25 q26 q27 q28 q29 q30 q31 q32 q33 q34 q35 q36 q37 q38 q39 q40 q41 q42 q43 q44 q45 q46 q47 q48 q49 q50 q51 q52 q53 q54 q55 q56 q57 q58 q59 q60 q61 q62 q63 q64 q65 q66 q67 q68 q69 q70 q71 q72 q73 q74 q75 q76 q77 q78 q79 q80 q81 q82 q83 q84 q85 q86 q87 q88 q89 q90 q91 q92 q93 q94 q95 q96 q97 q98 q99 q100 q101 q102 q103 y16 y104 y105 y106 y107 y108 y109 y110) w := by
  obtain ⟨hn1, hdep⟩ := fs24dep hi fs24o0 rfl
  obtain ⟨hlt, hno⟩ := cha_no hn1
  have G0 : Hid _ := (h.bel.block _ hblt).trans hrow
  have hik : Hid _ := hinf
  have HH : Hid _ := h
  clear h hdep hn1 hrow hinf
  unfold fs24fr fs24o0
  go_wp2_with (refine wpList_load_row rfl 22 _ rfl (b15) rfl _ (Iv .u8 K2) _ _ G0.out Tryd.underlying22 rfl hik.out ?_)
  have h := HH.out
  have hb := Below.refl w.heap.size w
  refine ⟨_, _, _, _, _, _, _, _, rfl, {
    size := by simpa using h.size
    bel := h.bel.trans (hb.mono h.bel.size)
    p0 := fun _ => rfl
    p1 := fun hl => h.p1 (by rwa [Lb_ne (by omega)] at hl)
    p2 := fun hl => h.p2 (by rwa [Lb_ne (by omega)] at hl)
    p3 := fun hl => (h.p3 (by rwa [Lb_ne (by omega)] at hl)).later hb
    p4 := fun hl => h.p4 (by rwa [Lb_ne (by omega)] at hl)
    p5 := fun hl => (h.p5 (by rwa [Lb_ne (by omega)] at hl)).later hb
    p6 := fun hl => (h.p6 (by rwa [Lb_ne (by omega)] at hl)).later hb
    p7 := fun hl => ⟨by rw [Lb_ne (by omega)]; exact (h.p7 (by rwa [Lb_ne (by omega)] at hl)).1, (h.p7 (by rwa [Lb_ne (by omega)] at hl)).2⟩ }⟩
set_option maxRecDepth 10000 in
set_option maxHeartbeats 2000000 in
theorem fs24s1 {K2 S2 text E S : List Int} {b15 b11 gt n1 ct : Nat} {ev q0 q2 q3 q4 q5 q8 q9 q10 q12 q13 q14 q25 q26 q27 q28 q29 q30 q31 q32 q33 q34 q35 q36 q37 q38 q39 q40 q41 q42 q43 q44 q45 q46 q47 q48 q49 q50 q51 q52 q53 q54 q55 q56 q57 q58 q59 q60 q61 q62 q63 q64 q65 q66 q67 q68 q69 q70 q71 q72 q73 q74 q75 q76 q77 q78 q79 q80 q81 q82 q83 q84 q85 q86 q87 q88 q89 q90 q91 q92 q93 q94 q95 q96 q97 q98 q99 q100 q101 q102 q103 : Value} {W : World} {listed : Array Bool} {w : World} {y16 y104 y105 y106 y107 y108 y109 y110 : Value} {Q : Exit → Act → World → Prop} (h : fs24In K2 S2 text E S b15 b11 gt n1 ct ev q0 q2 q3 q4 q5 q8 q9 q10 q12 q13 q14 q25 q26 q27 q28 q29 q30 q31 q32 q33 q34 q35 q36 q37 q38 q39 q40 q41 q42 q43 q44 q45 q46 q47 q48 q49 q50 q51 q52 q53 q54 q55 q56 q57 q58 q59 q60 q61 q62 q63 q64 q65 q66 q67 q68 q69 q70 q71 q72 q73 q74 q75 q76 q77 q78 q79 q80 q81 q82 q83 q84 q85 q86 q87 q88 q89 q90 q91 q92 q93 q94 q95 q96 q97 q98 q99 q100 q101 q102 q103 W listed w y16 y104 y105 y106 y107 y108 y109 y110) (hi : 1 ∈ Region.ready .any fs24ops listed) (hrow : W.heap[b11]? = some (.cells (Iv .u8 S2) 23)) (hblt : b11 < W.heap.size) (hinf : (Tryd.prog.info? 23).map (·.size) = some ((Iv .u8 S2)).size) :
    wpList Tryd.prog fs24ops (atEnd (fs24Inv K2 S2 text E S b15 b11 gt n1 ct ev q0 q2 q3 q4 q5 q8 q9 q10 q12 q13 q14 q25 q26 q27 q28 q29 q30 q31 q32 q33 q34 q35 q36 q37 q38 q39 q40 q41 q42 q43 q44 q45 q46 q47 q48 q49 q50 q51 q52 q53 q54 q55 q56 q57 q58 q59 q60 q61 q62 q63 q64 q65 q66 q67 q68 q69 q70 q71 q72 q73 q74 q75 q76 q77 q78 q79 q80 q81 q82 q83 q84 q85 q86 q87 q88 q89 q90 q91 q92 q93 q94 q95 q96 q97 q98 q99 q100 q101 q102 q103 W (listed.setIfInBounds 1 true)) Q) [fs24o1] (fs24fr K2 S2 text E S b15 b11 gt n1 ct ev q0 q2 q3 q4 q5 q8 q9 q10 q12 q13 q14 q25 q26 q27 q28 q29 q30 q31 q32 q33 q34 q35 q36 q37 q38 q39 q40 q41 q42 q43 q44 q45 q46 q47 q48 q49 q50 q51 q52 q53 q54 q55 q56 q57 q58 q59 q60 q61 q62 q63 q64 q65 q66 q67 q68 q69 q70 q71 q72 q73 q74 q75 q76 q77 q78 q79 q80 q81 q82 q83 q84 q85 q86 q87 q88 q89 q90 q91 q92 q93 q94 q95 q96 q97 q98 q99 q100 q101 q102 q103 y16 y104 y105 y106 y107 y108 y109 y110) w := by
  obtain ⟨hn1, hdep⟩ := fs24dep hi fs24o1 rfl
  obtain ⟨hlt, hno⟩ := cha_no hn1
  have G0 : Hid _ := (h.bel.block _ hblt).trans hrow
  have hik : Hid _ := hinf
  have HH : Hid _ := h
  clear h hdep hn1 hrow hinf
  unfold fs24fr fs24o1
  go_wp2_with (refine wpList_load_row rfl 23 _ rfl (b11) rfl _ (Iv .u8 S2) _ _ G0.out Tryd.underlying23 rfl hik.out ?_)
  have h := HH.out
  have hb := Below.refl w.heap.size w
  refine ⟨_, _, _, _, _, _, _, _, rfl, {
    size := by simpa using h.size
    bel := h.bel.trans (hb.mono h.bel.size)
    p0 := fun hl => h.p0 (by rwa [Lb_ne (by omega)] at hl)
    p1 := fun _ => rfl
    p2 := fun hl => h.p2 (by rwa [Lb_ne (by omega)] at hl)
    p3 := fun hl => (h.p3 (by rwa [Lb_ne (by omega)] at hl)).later hb
    p4 := fun hl => h.p4 (by rwa [Lb_ne (by omega)] at hl)
    p5 := fun hl => (h.p5 (by rwa [Lb_ne (by omega)] at hl)).later hb
    p6 := fun hl => (h.p6 (by rwa [Lb_ne (by omega)] at hl)).later hb
    p7 := fun hl => ⟨by rw [Lb_ne (by omega)]; exact (h.p7 (by rwa [Lb_ne (by omega)] at hl)).1, (h.p7 (by rwa [Lb_ne (by omega)] at hl)).2⟩ }⟩
set_option maxRecDepth 10000 in
set_option maxHeartbeats 2000000 in
theorem fs24s2 {K2 S2 text E S : List Int} {b15 b11 gt n1 ct : Nat} {ev q0 q2 q3 q4 q5 q8 q9 q10 q12 q13 q14 q25 q26 q27 q28 q29 q30 q31 q32 q33 q34 q35 q36 q37 q38 q39 q40 q41 q42 q43 q44 q45 q46 q47 q48 q49 q50 q51 q52 q53 q54 q55 q56 q57 q58 q59 q60 q61 q62 q63 q64 q65 q66 q67 q68 q69 q70 q71 q72 q73 q74 q75 q76 q77 q78 q79 q80 q81 q82 q83 q84 q85 q86 q87 q88 q89 q90 q91 q92 q93 q94 q95 q96 q97 q98 q99 q100 q101 q102 q103 : Value} {W : World} {listed : Array Bool} {w : World} {y16 y104 y105 y106 y107 y108 y109 y110 : Value} {Q : Exit → Act → World → Prop} (h : fs24In K2 S2 text E S b15 b11 gt n1 ct ev q0 q2 q3 q4 q5 q8 q9 q10 q12 q13 q14 q25 q26 q27 q28 q29 q30 q31 q32 q33 q34 q35 q36 q37 q38 q39 q40 q41 q42 q43 q44 q45 q46 q47 q48 q49 q50 q51 q52 q53 q54 q55 q56 q57 q58 q59 q60 q61 q62 q63 q64 q65 q66 q67 q68 q69 q70 q71 q72 q73 q74 q75 q76 q77 q78 q79 q80 q81 q82 q83 q84 q85 q86 q87 q88 q89 q90 q91 q92 q93 q94 q95 q96 q97 q98 q99 q100 q101 q102 q103 W listed w y16 y104 y105 y106 y107 y108 y109 y110) (hi : 2 ∈ Region.ready .any fs24ops listed) :
    wpList Tryd.prog fs24ops (atEnd (fs24Inv K2 S2 text E S b15 b11 gt n1 ct ev q0 q2 q3 q4 q5 q8 q9 q10 q12 q13 q14 q25 q26 q27 q28 q29 q30 q31 q32 q33 q34 q35 q36 q37 q38 q39 q40 q41 q42 q43 q44 q45 q46 q47 q48 q49 q50 q51 q52 q53 q54 q55 q56 q57 q58 q59 q60 q61 q62 q63 q64 q65 q66 q67 q68 q69 q70 q71 q72 q73 q74 q75 q76 q77 q78 q79 q80 q81 q82 q83 q84 q85 q86 q87 q88 q89 q90 q91 q92 q93 q94 q95 q96 q97 q98 q99 q100 q101 q102 q103 W (listed.setIfInBounds 2 true)) Q) [fs24o2] (fs24fr K2 S2 text E S b15 b11 gt n1 ct ev q0 q2 q3 q4 q5 q8 q9 q10 q12 q13 q14 q25 q26 q27 q28 q29 q30 q31 q32 q33 q34 q35 q36 q37 q38 q39 q40 q41 q42 q43 q44 q45 q46 q47 q48 q49 q50 q51 q52 q53 q54 q55 q56 q57 q58 q59 q60 q61 q62 q63 q64 q65 q66 q67 q68 q69 q70 q71 q72 q73 q74 q75 q76 q77 q78 q79 q80 q81 q82 q83 q84 q85 q86 q87 q88 q89 q90 q91 q92 q93 q94 q95 q96 q97 q98 q99 q100 q101 q102 q103 y16 y104 y105 y106 y107 y108 y109 y110) w := by
  obtain ⟨hn1, hdep⟩ := fs24dep hi fs24o2 rfl
  obtain ⟨hlt, hno⟩ := cha_no hn1
  have HH : Hid _ := h
  clear h hdep hn1
  unfold fs24fr fs24o2
  go_wp2_with fail
  have h := HH.out
  have hb := Below.refl w.heap.size w
  refine ⟨_, _, _, _, _, _, _, _, rfl, {
    size := by simpa using h.size
    bel := h.bel.trans (hb.mono h.bel.size)
    p0 := fun hl => h.p0 (by rwa [Lb_ne (by omega)] at hl)
    p1 := fun hl => h.p1 (by rwa [Lb_ne (by omega)] at hl)
    p2 := fun _ => rfl
    p3 := fun hl => (h.p3 (by rwa [Lb_ne (by omega)] at hl)).later hb
    p4 := fun hl => h.p4 (by rwa [Lb_ne (by omega)] at hl)
    p5 := fun hl => (h.p5 (by rwa [Lb_ne (by omega)] at hl)).later hb
    p6 := fun hl => (h.p6 (by rwa [Lb_ne (by omega)] at hl)).later hb
    p7 := fun hl => ⟨by rw [Lb_ne (by omega)]; exact (h.p7 (by rwa [Lb_ne (by omega)] at hl)).1, (h.p7 (by rwa [Lb_ne (by omega)] at hl)).2⟩ }⟩
set_option maxRecDepth 10000 in
set_option maxHeartbeats 2000000 in
theorem fs24s3 {K2 S2 text E S : List Int} {b15 b11 gt n1 ct : Nat} {ev q0 q2 q3 q4 q5 q8 q9 q10 q12 q13 q14 q25 q26 q27 q28 q29 q30 q31 q32 q33 q34 q35 q36 q37 q38 q39 q40 q41 q42 q43 q44 q45 q46 q47 q48 q49 q50 q51 q52 q53 q54 q55 q56 q57 q58 q59 q60 q61 q62 q63 q64 q65 q66 q67 q68 q69 q70 q71 q72 q73 q74 q75 q76 q77 q78 q79 q80 q81 q82 q83 q84 q85 q86 q87 q88 q89 q90 q91 q92 q93 q94 q95 q96 q97 q98 q99 q100 q101 q102 q103 : Value} {W : World} {listed : Array Bool} {w : World} {y16 y104 y105 y106 y107 y108 y109 y110 : Value} {Q : Exit → Act → World → Prop} (h : fs24In K2 S2 text E S b15 b11 gt n1 ct ev q0 q2 q3 q4 q5 q8 q9 q10 q12 q13 q14 q25 q26 q27 q28 q29 q30 q31 q32 q33 q34 q35 q36 q37 q38 q39 q40 q41 q42 q43 q44 q45 q46 q47 q48 q49 q50 q51 q52 q53 q54 q55 q56 q57 q58 q59 q60 q61 q62 q63 q64 q65 q66 q67 q68 q69 q70 q71 q72 q73 q74 q75 q76 q77 q78 q79 q80 q81 q82 q83 q84 q85 q86 q87 q88 q89 q90 q91 q92 q93 q94 q95 q96 q97 q98 q99 q100 q101 q102 q103 W listed w y16 y104 y105 y106 y107 y108 y109 y110) (hi : 3 ∈ Region.ready .any fs24ops listed) (hcon : ∀ w, Below W.heap.size W w → Calls Tryd.prog 29 #[.slice (some ⟨gt, 0, none⟩) n1 ct] w fun e w' => ∃ v, e = .returned v ∧ OwnN .u8 5 w.heap.size w' v text ∧ Below w.heap.size w w') :
    wpList Tryd.prog fs24ops (atEnd (fs24Inv K2 S2 text E S b15 b11 gt n1 ct ev q0 q2 q3 q4 q5 q8 q9 q10 q12 q13 q14 q25 q26 q27 q28 q29 q30 q31 q32 q33 q34 q35 q36 q37 q38 q39 q40 q41 q42 q43 q44 q45 q46 q47 q48 q49 q50 q51 q52 q53 q54 q55 q56 q57 q58 q59 q60 q61 q62 q63 q64 q65 q66 q67 q68 q69 q70 q71 q72 q73 q74 q75 q76 q77 q78 q79 q80 q81 q82 q83 q84 q85 q86 q87 q88 q89 q90 q91 q92 q93 q94 q95 q96 q97 q98 q99 q100 q101 q102 q103 W (listed.setIfInBounds 3 true)) Q) [fs24o3] (fs24fr K2 S2 text E S b15 b11 gt n1 ct ev q0 q2 q3 q4 q5 q8 q9 q10 q12 q13 q14 q25 q26 q27 q28 q29 q30 q31 q32 q33 q34 q35 q36 q37 q38 q39 q40 q41 q42 q43 q44 q45 q46 q47 q48 q49 q50 q51 q52 q53 q54 q55 q56 q57 q58 q59 q60 q61 q62 q63 q64 q65 q66 q67 q68 q69 q70 q71 q72 q73 q74 q75 q76 q77 q78 q79 q80 q81 q82 q83 q84 q85 q86 q87 q88 q89 q90 q91 q92 q93 q94 q95 q96 q97 q98 q99 q100 q101 q102 q103 y16 y104 y105 y106 y107 y108 y109 y110) w := by
  obtain ⟨hn1, hdep⟩ := fs24dep hi fs24o3 rfl
  obtain ⟨hlt, hno⟩ := cha_no hn1
  have l2 : Lb listed 2 = true := hdep { on := 2, ground := Ground.data } (by unfold fs24o3; simp) rfl
  obtain rfl := h.p2 l2
  have HC : Hid _ := hcon w  h.bel 
  have HH : Hid _ := h
  clear h hdep hn1 hcon
  unfold fs24fr fs24o3
  go_wp2_with fail
  refine Calls.mono HC.out ?_
  rintro e w' ⟨v, rfl, ho, hb⟩
  go_wp2_with fail
  have h := HH.out
  refine ⟨_, _, _, _, _, _, _, _, rfl, {
    size := by simpa using h.size
    bel := h.bel.trans (hb.mono h.bel.size)
    p0 := fun hl => h.p0 (by rwa [Lb_ne (by omega)] at hl)
    p1 := fun hl => h.p1 (by rwa [Lb_ne (by omega)] at hl)
    p2 := fun hl => h.p2 (by rwa [Lb_ne (by omega)] at hl)
    p3 := fun _ => ho.mono h.bel.size
    p4 := fun hl => h.p4 (by rwa [Lb_ne (by omega)] at hl)
    p5 := fun hl => (h.p5 (by rwa [Lb_ne (by omega)] at hl)).later hb
    p6 := fun hl => (h.p6 (by rwa [Lb_ne (by omega)] at hl)).later hb
    p7 := fun hl => ⟨by rw [Lb_ne (by omega)]; exact (h.p7 (by rwa [Lb_ne (by omega)] at hl)).1, (h.p7 (by rwa [Lb_ne (by omega)] at hl)).2⟩ }⟩
set_option maxRecDepth 10000 in
set_option maxHeartbeats 2000000 in
theorem fs24s4 {K2 S2 text E S : List Int} {b15 b11 gt n1 ct : Nat} {ev q0 q2 q3 q4 q5 q8 q9 q10 q12 q13 q14 q25 q26 q27 q28 q29 q30 q31 q32 q33 q34 q35 q36 q37 q38 q39 q40 q41 q42 q43 q44 q45 q46 q47 q48 q49 q50 q51 q52 q53 q54 q55 q56 q57 q58 q59 q60 q61 q62 q63 q64 q65 q66 q67 q68 q69 q70 q71 q72 q73 q74 q75 q76 q77 q78 q79 q80 q81 q82 q83 q84 q85 q86 q87 q88 q89 q90 q91 q92 q93 q94 q95 q96 q97 q98 q99 q100 q101 q102 q103 : Value} {W : World} {listed : Array Bool} {w : World} {y16 y104 y105 y106 y107 y108 y109 y110 : Value} {Q : Exit → Act → World → Prop} (h : fs24In K2 S2 text E S b15 b11 gt n1 ct ev q0 q2 q3 q4 q5 q8 q9 q10 q12 q13 q14 q25 q26 q27 q28 q29 q30 q31 q32 q33 q34 q35 q36 q37 q38 q39 q40 q41 q42 q43 q44 q45 q46 q47 q48 q49 q50 q51 q52 q53 q54 q55 q56 q57 q58 q59 q60 q61 q62 q63 q64 q65 q66 q67 q68 q69 q70 q71 q72 q73 q74 q75 q76 q77 q78 q79 q80 q81 q82 q83 q84 q85 q86 q87 q88 q89 q90 q91 q92 q93 q94 q95 q96 q97 q98 q99 q100 q101 q102 q103 W listed w y16 y104 y105 y106 y107 y108 y109 y110) (hi : 4 ∈ Region.ready .any fs24ops listed) :
    wpList Tryd.prog fs24ops (atEnd (fs24Inv K2 S2 text E S b15 b11 gt n1 ct ev q0 q2 q3 q4 q5 q8 q9 q10 q12 q13 q14 q25 q26 q27 q28 q29 q30 q31 q32 q33 q34 q35 q36 q37 q38 q39 q40 q41 q42 q43 q44 q45 q46 q47 q48 q49 q50 q51 q52 q53 q54 q55 q56 q57 q58 q59 q60 q61 q62 q63 q64 q65 q66 q67 q68 q69 q70 q71 q72 q73 q74 q75 q76 q77 q78 q79 q80 q81 q82 q83 q84 q85 q86 q87 q88 q89 q90 q91 q92 q93 q94 q95 q96 q97 q98 q99 q100 q101 q102 q103 W (listed.setIfInBounds 4 true)) Q) [fs24o4] (fs24fr K2 S2 text E S b15 b11 gt n1 ct ev q0 q2 q3 q4 q5 q8 q9 q10 q12 q13 q14 q25 q26 q27 q28 q29 q30 q31 q32 q33 q34 q35 q36 q37 q38 q39 q40 q41 q42 q43 q44 q45 q46 q47 q48 q49 q50 q51 q52 q53 q54 q55 q56 q57 q58 q59 q60 q61 q62 q63 q64 q65 q66 q67 q68 q69 q70 q71 q72 q73 q74 q75 q76 q77 q78 q79 q80 q81 q82 q83 q84 q85 q86 q87 q88 q89 q90 q91 q92 q93 q94 q95 q96 q97 q98 q99 q100 q101 q102 q103 y16 y104 y105 y106 y107 y108 y109 y110) w := by
  obtain ⟨hn1, hdep⟩ := fs24dep hi fs24o4 rfl
  obtain ⟨hlt, hno⟩ := cha_no hn1
  have HH : Hid _ := h
  clear h hdep hn1
  unfold fs24fr fs24o4
  go_wp2_with fail
  have h := HH.out
  have hb := Below.refl w.heap.size w
  refine ⟨_, _, _, _, _, _, _, _, rfl, {
    size := by simpa using h.size
    bel := h.bel.trans (hb.mono h.bel.size)
    p0 := fun hl => h.p0 (by rwa [Lb_ne (by omega)] at hl)
    p1 := fun hl => h.p1 (by rwa [Lb_ne (by omega)] at hl)
    p2 := fun hl => h.p2 (by rwa [Lb_ne (by omega)] at hl)
    p3 := fun hl => (h.p3 (by rwa [Lb_ne (by omega)] at hl)).later hb
    p4 := fun _ => rfl
    p5 := fun hl => (h.p5 (by rwa [Lb_ne (by omega)] at hl)).later hb
    p6 := fun hl => (h.p6 (by rwa [Lb_ne (by omega)] at hl)).later hb
    p7 := fun hl => ⟨by rw [Lb_ne (by omega)]; exact (h.p7 (by rwa [Lb_ne (by omega)] at hl)).1, (h.p7 (by rwa [Lb_ne (by omega)] at hl)).2⟩ }⟩
set_option maxRecDepth 10000 in
set_option maxHeartbeats 2000000 in
theorem fs24s5 {K2 S2 text E S : List Int} {b15 b11 gt n1 ct : Nat} {ev q0 q2 q3 q4 q5 q8 q9 q10 q12 q13 q14 q25 q26 q27 q28 q29 q30 q31 q32 q33 q34 q35 q36 q37 q38 q39 q40 q41 q42 q43 q44 q45 q46 q47 q48 q49 q50 q51 q52 q53 q54 q55 q56 q57 q58 q59 q60 q61 q62 q63 q64 q65 q66 q67 q68 q69 q70 q71 q72 q73 q74 q75 q76 q77 q78 q79 q80 q81 q82 q83 q84 q85 q86 q87 q88 q89 q90 q91 q92 q93 q94 q95 q96 q97 q98 q99 q100 q101 q102 q103 : Value} {W : World} {listed : Array Bool} {w : World} {y16 y104 y105 y106 y107 y108 y109 y110 : Value} {Q : Exit → Act → World → Prop} (h : fs24In K2 S2 text E S b15 b11 gt n1 ct ev q0 q2 q3 q4 q5 q8 q9 q10 q12 q13 q14 q25 q26 q27 q28 q29 q30 q31 q32 q33 q34 q35 q36 q37 q38 q39 q40 q41 q42 q43 q44 q45 q46 q47 q48 q49 q50 q51 q52 q53 q54 q55 q56 q57 q58 q59 q60 q61 q62 q63 q64 q65 q66 q67 q68 q69 q70 q71 q72 q73 q74 q75 q76 q77 q78 q79 q80 q81 q82 q83 q84 q85 q86 q87 q88 q89 q90 q91 q92 q93 q94 q95 q96 q97 q98 q99 q100 q101 q102 q103 W listed w y16 y104 y105 y106 y107 y108 y109 y110) (hi : 5 ∈ Region.ready .any fs24ops listed) (hcon : ∀ w, Below W.heap.size W w → Calls Tryd.prog 29 #[ev] w fun e w' => ∃ v, e = .returned v ∧ OwnN .u8 5 w.heap.size w' v E ∧ Below w.heap.size w w') :
    wpList Tryd.prog fs24ops (atEnd (fs24Inv K2 S2 text E S b15 b11 gt n1 ct ev q0 q2 q3 q4 q5 q8 q9 q10 q12 q13 q14 q25 q26 q27 q28 q29 q30 q31 q32 q33 q34 q35 q36 q37 q38 q39 q40 q41 q42 q43 q44 q45 q46 q47 q48 q49 q50 q51 q52 q53 q54 q55 q56 q57 q58 q59 q60 q61 q62 q63 q64 q65 q66 q67 q68 q69 q70 q71 q72 q73 q74 q75 q76 q77 q78 q79 q80 q81 q82 q83 q84 q85 q86 q87 q88 q89 q90 q91 q92 q93 q94 q95 q96 q97 q98 q99 q100 q101 q102 q103 W (listed.setIfInBounds 5 true)) Q) [fs24o5] (fs24fr K2 S2 text E S b15 b11 gt n1 ct ev q0 q2 q3 q4 q5 q8 q9 q10 q12 q13 q14 q25 q26 q27 q28 q29 q30 q31 q32 q33 q34 q35 q36 q37 q38 q39 q40 q41 q42 q43 q44 q45 q46 q47 q48 q49 q50 q51 q52 q53 q54 q55 q56 q57 q58 q59 q60 q61 q62 q63 q64 q65 q66 q67 q68 q69 q70 q71 q72 q73 q74 q75 q76 q77 q78 q79 q80 q81 q82 q83 q84 q85 q86 q87 q88 q89 q90 q91 q92 q93 q94 q95 q96 q97 q98 q99 q100 q101 q102 q103 y16 y104 y105 y106 y107 y108 y109 y110) w := by
  obtain ⟨hn1, hdep⟩ := fs24dep hi fs24o5 rfl
  obtain ⟨hlt, hno⟩ := cha_no hn1
  have l4 : Lb listed 4 = true := hdep { on := 4, ground := Ground.data } (by unfold fs24o5; simp) rfl
  obtain rfl := h.p4 l4
  have HC : Hid _ := hcon w  h.bel 
  have HH : Hid _ := h
  clear h hdep hn1 hcon
  unfold fs24fr fs24o5
  go_wp2_with fail
  refine Calls.mono HC.out ?_
  rintro e w' ⟨v, rfl, ho, hb⟩
  go_wp2_with fail
  have h := HH.out
  refine ⟨_, _, _, _, _, _, _, _, rfl, {
    size := by simpa using h.size
    bel := h.bel.trans (hb.mono h.bel.size)
    p0 := fun hl => h.p0 (by rwa [Lb_ne (by omega)] at hl)
    p1 := fun hl => h.p1 (by rwa [Lb_ne (by omega)] at hl)
    p2 := fun hl => h.p2 (by rwa [Lb_ne (by omega)] at hl)
    p3 := fun hl => (h.p3 (by rwa [Lb_ne (by omega)] at hl)).later hb
    p4 := fun hl => h.p4 (by rwa [Lb_ne (by omega)] at hl)
    p5 := fun _ => ho.mono h.bel.size
    p6 := fun hl => (h.p6 (by rwa [Lb_ne (by omega)] at hl)).later hb
    p7 := fun hl => ⟨by rw [Lb_ne (by omega)]; exact (h.p7 (by rwa [Lb_ne (by omega)] at hl)).1, (h.p7 (by rwa [Lb_ne (by omega)] at hl)).2⟩ }⟩
set_option maxRecDepth 10000 in
set_option maxHeartbeats 2000000 in
theorem fs24s6 {K2 S2 text E S : List Int} {b15 b11 gt n1 ct : Nat} {ev q0 q2 q3 q4 q5 q8 q9 q10 q12 q13 q14 q25 q26 q27 q28 q29 q30 q31 q32 q33 q34 q35 q36 q37 q38 q39 q40 q41 q42 q43 q44 q45 q46 q47 q48 q49 q50 q51 q52 q53 q54 q55 q56 q57 q58 q59 q60 q61 q62 q63 q64 q65 q66 q67 q68 q69 q70 q71 q72 q73 q74 q75 q76 q77 q78 q79 q80 q81 q82 q83 q84 q85 q86 q87 q88 q89 q90 q91 q92 q93 q94 q95 q96 q97 q98 q99 q100 q101 q102 q103 : Value} {W : World} {listed : Array Bool} {w : World} {y16 y104 y105 y106 y107 y108 y109 y110 : Value} {Q : Exit → Act → World → Prop} (h : fs24In K2 S2 text E S b15 b11 gt n1 ct ev q0 q2 q3 q4 q5 q8 q9 q10 q12 q13 q14 q25 q26 q27 q28 q29 q30 q31 q32 q33 q34 q35 q36 q37 q38 q39 q40 q41 q42 q43 q44 q45 q46 q47 q48 q49 q50 q51 q52 q53 q54 q55 q56 q57 q58 q59 q60 q61 q62 q63 q64 q65 q66 q67 q68 q69 q70 q71 q72 q73 q74 q75 q76 q77 q78 q79 q80 q81 q82 q83 q84 q85 q86 q87 q88 q89 q90 q91 q92 q93 q94 q95 q96 q97 q98 q99 q100 q101 q102 q103 W listed w y16 y104 y105 y106 y107 y108 y109 y110) (hi : 6 ∈ Region.ready .any fs24ops listed) (hcon : ∀ w y107 y109, Below W.heap.size W w → OwnN .u8 5 W.heap.size w y107 text → OwnN .u8 5 W.heap.size w y109 E → Calls Tryd.prog 12 #[.agg (Iv .u8 K2), .agg (Iv .u8 S2), y107, y109] w fun e w' => ∃ v, e = .returned v ∧ OwnN .u8 5 w.heap.size w' v S ∧ Below w.heap.size w w') :
    wpList Tryd.prog fs24ops (atEnd (fs24Inv K2 S2 text E S b15 b11 gt n1 ct ev q0 q2 q3 q4 q5 q8 q9 q10 q12 q13 q14 q25 q26 q27 q28 q29 q30 q31 q32 q33 q34 q35 q36 q37 q38 q39 q40 q41 q42 q43 q44 q45 q46 q47 q48 q49 q50 q51 q52 q53 q54 q55 q56 q57 q58 q59 q60 q61 q62 q63 q64 q65 q66 q67 q68 q69 q70 q71 q72 q73 q74 q75 q76 q77 q78 q79 q80 q81 q82 q83 q84 q85 q86 q87 q88 q89 q90 q91 q92 q93 q94 q95 q96 q97 q98 q99 q100 q101 q102 q103 W (listed.setIfInBounds 6 true)) Q) [fs24o6] (fs24fr K2 S2 text E S b15 b11 gt n1 ct ev q0 q2 q3 q4 q5 q8 q9 q10 q12 q13 q14 q25 q26 q27 q28 q29 q30 q31 q32 q33 q34 q35 q36 q37 q38 q39 q40 q41 q42 q43 q44 q45 q46 q47 q48 q49 q50 q51 q52 q53 q54 q55 q56 q57 q58 q59 q60 q61 q62 q63 q64 q65 q66 q67 q68 q69 q70 q71 q72 q73 q74 q75 q76 q77 q78 q79 q80 q81 q82 q83 q84 q85 q86 q87 q88 q89 q90 q91 q92 q93 q94 q95 q96 q97 q98 q99 q100 q101 q102 q103 y16 y104 y105 y106 y107 y108 y109 y110) w := by
  obtain ⟨hn1, hdep⟩ := fs24dep hi fs24o6 rfl
  obtain ⟨hlt, hno⟩ := cha_no hn1
  have l0 : Lb listed 0 = true := hdep { on := 0, ground := Ground.data } (by unfold fs24o6; simp) rfl
  obtain rfl := h.p0 l0
  have l1 : Lb listed 1 = true := hdep { on := 1, ground := Ground.data } (by unfold fs24o6; simp) rfl
  obtain rfl := h.p1 l1
  have l3 : Lb listed 3 = true := hdep { on := 3, ground := Ground.data } (by unfold fs24o6; simp) rfl
  have o3 := h.p3 l3
  have l5 : Lb listed 5 = true := hdep { on := 5, ground := Ground.data } (by unfold fs24o6; simp) rfl
  have o5 := h.p5 l5
  have HC : Hid _ := hcon w _ _ h.bel o3 o5
  have HH : Hid _ := h
  clear h hdep hn1 hcon
  unfold fs24fr fs24o6
  go_wp2_with fail
  refine Calls.mono HC.out ?_
  rintro e w' ⟨v, rfl, ho, hb⟩
  go_wp2_with fail
  have h := HH.out
  refine ⟨_, _, _, _, _, _, _, _, rfl, {
    size := by simpa using h.size
    bel := h.bel.trans (hb.mono h.bel.size)
    p0 := fun hl => h.p0 (by rwa [Lb_ne (by omega)] at hl)
    p1 := fun hl => h.p1 (by rwa [Lb_ne (by omega)] at hl)
    p2 := fun hl => h.p2 (by rwa [Lb_ne (by omega)] at hl)
    p3 := fun hl => (h.p3 (by rwa [Lb_ne (by omega)] at hl)).later hb
    p4 := fun hl => h.p4 (by rwa [Lb_ne (by omega)] at hl)
    p5 := fun hl => (h.p5 (by rwa [Lb_ne (by omega)] at hl)).later hb
    p6 := fun _ => ho.mono h.bel.size
    p7 := fun hl => absurd (h.p7 (by rwa [Lb_ne (by omega)] at hl)).1 (by rw [hno]; simp) }⟩
set_option maxRecDepth 10000 in
set_option maxHeartbeats 2000000 in
theorem fs24s7 {K2 S2 text E S : List Int} {b15 b11 gt n1 ct : Nat} {ev q0 q2 q3 q4 q5 q8 q9 q10 q12 q13 q14 q25 q26 q27 q28 q29 q30 q31 q32 q33 q34 q35 q36 q37 q38 q39 q40 q41 q42 q43 q44 q45 q46 q47 q48 q49 q50 q51 q52 q53 q54 q55 q56 q57 q58 q59 q60 q61 q62 q63 q64 q65 q66 q67 q68 q69 q70 q71 q72 q73 q74 q75 q76 q77 q78 q79 q80 q81 q82 q83 q84 q85 q86 q87 q88 q89 q90 q91 q92 q93 q94 q95 q96 q97 q98 q99 q100 q101 q102 q103 : Value} {W : World} {listed : Array Bool} {w : World} {y16 y104 y105 y106 y107 y108 y109 y110 : Value} {Q : Exit → Act → World → Prop} (h : fs24In K2 S2 text E S b15 b11 gt n1 ct ev q0 q2 q3 q4 q5 q8 q9 q10 q12 q13 q14 q25 q26 q27 q28 q29 q30 q31 q32 q33 q34 q35 q36 q37 q38 q39 q40 q41 q42 q43 q44 q45 q46 q47 q48 q49 q50 q51 q52 q53 q54 q55 q56 q57 q58 q59 q60 q61 q62 q63 q64 q65 q66 q67 q68 q69 q70 q71 q72 q73 q74 q75 q76 q77 q78 q79 q80 q81 q82 q83 q84 q85 q86 q87 q88 q89 q90 q91 q92 q93 q94 q95 q96 q97 q98 q99 q100 q101 q102 q103 W listed w y16 y104 y105 y106 y107 y108 y109 y110) (hi : 7 ∈ Region.ready .any fs24ops listed) :
    wpList Tryd.prog fs24ops (atEnd (fs24Inv K2 S2 text E S b15 b11 gt n1 ct ev q0 q2 q3 q4 q5 q8 q9 q10 q12 q13 q14 q25 q26 q27 q28 q29 q30 q31 q32 q33 q34 q35 q36 q37 q38 q39 q40 q41 q42 q43 q44 q45 q46 q47 q48 q49 q50 q51 q52 q53 q54 q55 q56 q57 q58 q59 q60 q61 q62 q63 q64 q65 q66 q67 q68 q69 q70 q71 q72 q73 q74 q75 q76 q77 q78 q79 q80 q81 q82 q83 q84 q85 q86 q87 q88 q89 q90 q91 q92 q93 q94 q95 q96 q97 q98 q99 q100 q101 q102 q103 W (listed.setIfInBounds 7 true)) Q) [fs24o7] (fs24fr K2 S2 text E S b15 b11 gt n1 ct ev q0 q2 q3 q4 q5 q8 q9 q10 q12 q13 q14 q25 q26 q27 q28 q29 q30 q31 q32 q33 q34 q35 q36 q37 q38 q39 q40 q41 q42 q43 q44 q45 q46 q47 q48 q49 q50 q51 q52 q53 q54 q55 q56 q57 q58 q59 q60 q61 q62 q63 q64 q65 q66 q67 q68 q69 q70 q71 q72 q73 q74 q75 q76 q77 q78 q79 q80 q81 q82 q83 q84 q85 q86 q87 q88 q89 q90 q91 q92 q93 q94 q95 q96 q97 q98 q99 q100 q101 q102 q103 y16 y104 y105 y106 y107 y108 y109 y110) w := by
  obtain ⟨hn1, hdep⟩ := fs24dep hi fs24o7 rfl
  obtain ⟨hlt, hno⟩ := cha_no hn1
  have l6 : Lb listed 6 = true := hdep { on := 6, ground := Ground.data } (by unfold fs24o7; simp) rfl
  have o6 := h.p6 l6
  have HH : Hid _ := h
  clear h hdep hn1
  unfold fs24fr fs24o7
  go_wp2_with fail
  have h := HH.out
  have hb := Below.refl w.heap.size w
  refine ⟨_, _, _, _, _, _, _, _, rfl, {
    size := by simpa using h.size
    bel := h.bel.trans (hb.mono h.bel.size)
    p0 := fun hl => h.p0 (by rwa [Lb_ne (by omega)] at hl)
    p1 := fun hl => h.p1 (by rwa [Lb_ne (by omega)] at hl)
    p2 := fun hl => h.p2 (by rwa [Lb_ne (by omega)] at hl)
    p3 := fun hl => (h.p3 (by rwa [Lb_ne (by omega)] at hl)).later hb
    p4 := fun hl => h.p4 (by rwa [Lb_ne (by omega)] at hl)
    p5 := fun hl => (h.p5 (by rwa [Lb_ne (by omega)] at hl)).later hb
    p6 := fun hl => (h.p6 (by rwa [Lb_ne (by omega)] at hl)).later hb
    p7 := fun _ => ⟨by rw [Lb_ne (by omega)]; exact l6, rfl⟩ }⟩
end Go.Proofs.YtlbnmiinokkkgaaDoor
