/- Regions of FnSealing. Written by mk_FS.py. -/
import Derived.Test.YtlbnmiinokkkgaaDoorFS2Z
namespace Go.Proofs.YtlbnmiinokkkgaaDoor
open Go.RowKit
set_option linter.unusedVariables false
def fs40yo0 : Oper := { dst := some 173, op := Op.load 22 (Operand.tmp 15), type := 22, pos := "laws.go:627", after := #[], guard := none }
def fs40yo1 : Oper := { dst := some 174, op := Op.load 23 (Operand.tmp 11), type := 23, pos := "laws.go:627", after := #[], guard := none }
def fs40yo2 : Oper := { dst := some 175, op := Op.move (Operand.tmp 20), type := 24, pos := "laws.go:627", after := #[], guard := none }
def fs40yo3 : Oper := { dst := some 176, op := Op.call { callee := Callee.value (Operand.func 29), args := #[Operand.tmp 175], argTypes := #[24] }, type := 24, pos := "laws.go:627", after := #[{ on := 2, ground := Ground.data }], guard := none }
def fs40yo4 : Oper := { dst := some 177, op := Op.move (Operand.tmp 7), type := 24, pos := "laws.go:627", after := #[], guard := none }
def fs40yo5 : Oper := { dst := some 178, op := Op.call { callee := Callee.value (Operand.func 29), args := #[Operand.tmp 177], argTypes := #[24] }, type := 24, pos := "laws.go:627", after := #[{ on := 4, ground := Ground.data }, { on := 3, ground := Ground.chain }], guard := none }
def fs40yo6 : Oper := { dst := some 179, op := Op.call { callee := Callee.value (Operand.func 16), args := #[Operand.tmp 173, Operand.tmp 174, Operand.tmp 176, Operand.tmp 178], argTypes := #[22, 23, 24, 24] }, type := 32, pos := "laws.go:627", after := #[{ on := 0, ground := Ground.data }, { on := 1, ground := Ground.data }, { on := 3, ground := Ground.data }, { on := 5, ground := Ground.data }, { on := 5, ground := Ground.chain }], guard := none }
def fs40yo7 : Oper := { dst := some 172, op := Op.move (Operand.tmp 179), type := 32, pos := "laws.go:627", after := #[{ on := 6, ground := Ground.data }], guard := none }
def fs40yo8 : Oper := { dst := some 180, op := Op.extract (Operand.tmp 172) 0, type := 24, pos := "laws.go:627", after := #[{ on := 7, ground := Ground.data }], guard := none }
def fs40yo9 : Oper := { dst := some 181, op := Op.extract (Operand.tmp 172) 1, type := 4, pos := "laws.go:627", after := #[{ on := 7, ground := Ground.data }, { on := 10, ground := Ground.gcOnly Departure.lateStores }], guard := none }
def fs40yo10 : Oper := { dst := some 23, op := Op.assign (Operand.tmp 180), type := 24, pos := "laws.go:627", after := #[{ on := 8, ground := Ground.data }, { on := 6, ground := Ground.chain }, { on := 0, ground := Ground.phase }, { on := 1, ground := Ground.phase }, { on := 2, ground := Ground.phase }, { on := 3, ground := Ground.phase }, { on := 4, ground := Ground.phase }, { on := 5, ground := Ground.phase }, { on := 6, ground := Ground.phase }, { on := 7, ground := Ground.phase }, { on := 8, ground := Ground.phase }, { on := 9, ground := Ground.textOnly Departure.lateStores }], guard := none }
def fs40yo11 : Oper := { dst := some 24, op := Op.assign (Operand.tmp 181), type := 4, pos := "laws.go:627", after := #[{ on := 9, ground := Ground.data }, { on := 10, ground := Ground.chain }, { on := 0, ground := Ground.phase }, { on := 1, ground := Ground.phase }, { on := 2, ground := Ground.phase }, { on := 3, ground := Ground.phase }, { on := 4, ground := Ground.phase }, { on := 5, ground := Ground.phase }, { on := 6, ground := Ground.phase }, { on := 7, ground := Ground.phase }, { on := 8, ground := Ground.phase }, { on := 9, ground := Ground.phase }, { on := 10, ground := Ground.phase }], guard := none }
def fs40yops : Array Oper := #[fs40yo0, fs40yo1, fs40yo2, fs40yo3, fs40yo4, fs40yo5, fs40yo6, fs40yo7, fs40yo8, fs40yo9, fs40yo10, fs40yo11]
def fs40yfr (K2 S2 bx E S : List Int) (b15 b11 ga k ca : Nat) (ev q0 q2 q3 q4 q5 q6 q8 q9 q10 q12 q13 q14 q16 q17 q18 q19 q21 q22 q25 q26 q27 q28 q29 q30 q31 q32 q33 q34 q35 q36 q37 q38 q39 q40 q41 q42 q43 q44 q45 q46 q47 q48 q49 q50 q51 q52 q53 q54 q55 q56 q57 q58 q59 q60 q61 q62 q63 q64 q65 q66 q67 q68 q69 q70 q71 q72 q73 q74 q75 q76 q77 q78 q79 q80 q81 q82 q83 q84 q85 q86 q87 q88 q89 q90 q91 q92 q93 q94 q95 q96 q97 q98 q99 q100 q101 q102 q103 q104 q105 q106 q107 q108 q109 q110 q111 q112 q113 q114 q115 q116 q117 q118 q119 q120 q121 q122 q123 q124 q125 q126 q127 q128 q129 q130 q131 q132 q133 q134 q135 q136 q137 q138 q139 q140 q141 q142 q143 q144 q145 q146 q147 q148 q149 q150 q151 q152 q153 q154 q155 q156 q157 q158 q159 q160 q161 q162 q163 q164 q165 q166 q167 q168 q169 q170 q171 q182 q183 q184 q185 q186 q187 q188 q189 q190 q191 : Value) (y23 y24 y172 y173 y174 y175 y176 y177 y178 y179 y180 y181 : Value) : Act := { tmps := #[q0, undef, q2, q3, q4, q5, q6, ev, q8, q9, q10, .pointer (some ⟨b11, 0, none⟩), q12, q13, q14, .pointer (some ⟨b15, 0, none⟩), q16, q17, q18, q19, .slice (some ⟨ga, 0, none⟩) (k + 16) ca, q21, q22, y23, y24, q25, q26, q27, q28, q29, q30, q31, q32, q33, q34, q35, q36, q37, q38, q39, q40, q41, q42, q43, q44, q45, q46, q47, q48, q49, q50, q51, q52, q53, q54, q55, q56, q57, q58, q59, q60, q61, q62, q63, q64, q65, q66, q67, q68, q69, q70, q71, q72, q73, q74, q75, q76, q77, q78, q79, q80, q81, q82, q83, q84, q85, q86, q87, q88, q89, q90, q91, q92, q93, q94, q95, q96, q97, q98, q99, q100, q101, q102, q103, q104, q105, q106, q107, q108, q109, q110, q111, q112, q113, q114, q115, q116, q117, q118, q119, q120, q121, q122, q123, q124, q125, q126, q127, q128, q129, q130, q131, q132, q133, q134, q135, q136, q137, q138, q139, q140, q141, q142, q143, q144, q145, q146, q147, q148, q149, q150, q151, q152, q153, q154, q155, q156, q157, q158, q159, q160, q161, q162, q163, q164, q165, q166, q167, q168, q169, q170, q171, y172, y173, y174, y175, y176, y177, y178, y179, y180, y181, q182, q183, q184, q185, q186, q187, q188, q189, q190, q191], defers := [] }
structure fs40yIn (K2 S2 bx E S : List Int) (b15 b11 ga k ca : Nat) (ev q0 q2 q3 q4 q5 q6 q8 q9 q10 q12 q13 q14 q16 q17 q18 q19 q21 q22 q25 q26 q27 q28 q29 q30 q31 q32 q33 q34 q35 q36 q37 q38 q39 q40 q41 q42 q43 q44 q45 q46 q47 q48 q49 q50 q51 q52 q53 q54 q55 q56 q57 q58 q59 q60 q61 q62 q63 q64 q65 q66 q67 q68 q69 q70 q71 q72 q73 q74 q75 q76 q77 q78 q79 q80 q81 q82 q83 q84 q85 q86 q87 q88 q89 q90 q91 q92 q93 q94 q95 q96 q97 q98 q99 q100 q101 q102 q103 q104 q105 q106 q107 q108 q109 q110 q111 q112 q113 q114 q115 q116 q117 q118 q119 q120 q121 q122 q123 q124 q125 q126 q127 q128 q129 q130 q131 q132 q133 q134 q135 q136 q137 q138 q139 q140 q141 q142 q143 q144 q145 q146 q147 q148 q149 q150 q151 q152 q153 q154 q155 q156 q157 q158 q159 q160 q161 q162 q163 q164 q165 q166 q167 q168 q169 q170 q171 q182 q183 q184 q185 q186 q187 q188 q189 q190 q191 : Value) (W : World) (listed : Array Bool) (w : World) (y23 y24 y172 y173 y174 y175 y176 y177 y178 y179 y180 y181 : Value) : Prop where
  size : listed.size = 12
  bel : Below W.heap.size W w
  p0 : Lb listed 0 = true → y173 = .agg (Iv .u8 K2)
  p1 : Lb listed 1 = true → y174 = .agg (Iv .u8 S2)
  p2 : Lb listed 2 = true → y175 = .slice (some ⟨ga, 0, none⟩) (k + 16) ca
  p3 : Lb listed 3 = true → OwnN .u8 5 W.heap.size w y176 bx
  p4 : Lb listed 4 = true → y177 = ev
  p5 : Lb listed 5 = true → OwnN .u8 5 W.heap.size w y178 E
  p6 : Lb listed 6 = true → OwnT .u8 5 W.heap.size w y179 S
  p7 : Lb listed 7 = true → Lb listed 6 = true ∧ y172 = y179
  p8 : Lb listed 8 = true → Lb listed 6 = true ∧ y180 = fst2 y179
  p9 : Lb listed 9 = true → y181 = .bool true
  p10 : Lb listed 10 = true → Lb listed 8 = true ∧ y23 = y180
  p11 : Lb listed 11 = true → y24 = .bool true
def fs40yInv (K2 S2 bx E S : List Int) (b15 b11 ga k ca : Nat) (ev q0 q2 q3 q4 q5 q6 q8 q9 q10 q12 q13 q14 q16 q17 q18 q19 q21 q22 q25 q26 q27 q28 q29 q30 q31 q32 q33 q34 q35 q36 q37 q38 q39 q40 q41 q42 q43 q44 q45 q46 q47 q48 q49 q50 q51 q52 q53 q54 q55 q56 q57 q58 q59 q60 q61 q62 q63 q64 q65 q66 q67 q68 q69 q70 q71 q72 q73 q74 q75 q76 q77 q78 q79 q80 q81 q82 q83 q84 q85 q86 q87 q88 q89 q90 q91 q92 q93 q94 q95 q96 q97 q98 q99 q100 q101 q102 q103 q104 q105 q106 q107 q108 q109 q110 q111 q112 q113 q114 q115 q116 q117 q118 q119 q120 q121 q122 q123 q124 q125 q126 q127 q128 q129 q130 q131 q132 q133 q134 q135 q136 q137 q138 q139 q140 q141 q142 q143 q144 q145 q146 q147 q148 q149 q150 q151 q152 q153 q154 q155 q156 q157 q158 q159 q160 q161 q162 q163 q164 q165 q166 q167 q168 q169 q170 q171 q182 q183 q184 q185 q186 q187 q188 q189 q190 q191 : Value) (W : World) (listed : Array Bool) (a : Act) (w : World) : Prop := ∃ y23 y24 y172 y173 y174 y175 y176 y177 y178 y179 y180 y181, a = fs40yfr K2 S2 bx E S b15 b11 ga k ca ev q0 q2 q3 q4 q5 q6 q8 q9 q10 q12 q13 q14 q16 q17 q18 q19 q21 q22 q25 q26 q27 q28 q29 q30 q31 q32 q33 q34 q35 q36 q37 q38 q39 q40 q41 q42 q43 q44 q45 q46 q47 q48 q49 q50 q51 q52 q53 q54 q55 q56 q57 q58 q59 q60 q61 q62 q63 q64 q65 q66 q67 q68 q69 q70 q71 q72 q73 q74 q75 q76 q77 q78 q79 q80 q81 q82 q83 q84 q85 q86 q87 q88 q89 q90 q91 q92 q93 q94 q95 q96 q97 q98 q99 q100 q101 q102 q103 q104 q105 q106 q107 q108 q109 q110 q111 q112 q113 q114 q115 q116 q117 q118 q119 q120 q121 q122 q123 q124 q125 q126 q127 q128 q129 q130 q131 q132 q133 q134 q135 q136 q137 q138 q139 q140 q141 q142 q143 q144 q145 q146 q147 q148 q149 q150 q151 q152 q153 q154 q155 q156 q157 q158 q159 q160 q161 q162 q163 q164 q165 q166 q167 q168 q169 q170 q171 q182 q183 q184 q185 q186 q187 q188 q189 q190 q191 y23 y24 y172 y173 y174 y175 y176 y177 y178 y179 y180 y181 ∧ fs40yIn K2 S2 bx E S b15 b11 ga k ca ev q0 q2 q3 q4 q5 q6 q8 q9 q10 q12 q13 q14 q16 q17 q18 q19 q21 q22 q25 q26 q27 q28 q29 q30 q31 q32 q33 q34 q35 q36 q37 q38 q39 q40 q41 q42 q43 q44 q45 q46 q47 q48 q49 q50 q51 q52 q53 q54 q55 q56 q57 q58 q59 q60 q61 q62 q63 q64 q65 q66 q67 q68 q69 q70 q71 q72 q73 q74 q75 q76 q77 q78 q79 q80 q81 q82 q83 q84 q85 q86 q87 q88 q89 q90 q91 q92 q93 q94 q95 q96 q97 q98 q99 q100 q101 q102 q103 q104 q105 q106 q107 q108 q109 q110 q111 q112 q113 q114 q115 q116 q117 q118 q119 q120 q121 q122 q123 q124 q125 q126 q127 q128 q129 q130 q131 q132 q133 q134 q135 q136 q137 q138 q139 q140 q141 q142 q143 q144 q145 q146 q147 q148 q149 q150 q151 q152 q153 q154 q155 q156 q157 q158 q159 q160 q161 q162 q163 q164 q165 q166 q167 q168 q169 q170 q171 q182 q183 q184 q185 q186 q187 q188 q189 q190 q191 W listed w y23 y24 y172 y173 y174 y175 y176 y177 y178 y179 y180 y181
theorem fs40yready {listed : Array Bool} (hs : listed.size = 12) (hr : Region.ready .any fs40yops listed = []) {i : Nat} (o : Oper) (ho : fs40yops[i]? = some o) (hi : i < 12) (hdep : ∀ e ∈ o.after, Region.binds .any e = true → Lb listed e.on = true) : Lb listed i = true := by
  cases hb : Lb listed i with
  | true => rfl
  | false =>
    have h1 : listed.getD i true = false := by
      have hlt : i < listed.size := by omega
      simp only [Lb, Array.getD, hlt, dif_pos] at hb ⊢
      exact hb
    have : i ∈ Region.ready .any fs40yops listed := mem_ready.2 ⟨h1, o, ho, fun e he hbd => hdep e he hbd⟩
    rw [hr] at this
    cases this
theorem fs40yall {listed : Array Bool} (hs : listed.size = 12) (hr : Region.ready .any fs40yops listed = []) : Lb listed 0 = true ∧ Lb listed 1 = true ∧ Lb listed 2 = true ∧ Lb listed 3 = true ∧ Lb listed 4 = true ∧ Lb listed 5 = true ∧ Lb listed 6 = true ∧ Lb listed 7 = true ∧ Lb listed 8 = true ∧ Lb listed 9 = true ∧ Lb listed 10 = true ∧ Lb listed 11 = true := by
  have l0 := fs40yready hs hr (i := 0) fs40yo0 rfl (by omega) (by unfold fs40yo0; simp only [List.mem_toArray, List.not_mem_nil, false_implies, implies_true])
  have l1 := fs40yready hs hr (i := 1) fs40yo1 rfl (by omega) (by unfold fs40yo1; simp only [List.mem_toArray, List.not_mem_nil, false_implies, implies_true])
  have l2 := fs40yready hs hr (i := 2) fs40yo2 rfl (by omega) (by unfold fs40yo2; simp only [List.mem_toArray, List.not_mem_nil, false_implies, implies_true])
  have l3 := fs40yready hs hr (i := 3) fs40yo3 rfl (by omega) (by unfold fs40yo3; simp only [List.mem_toArray, List.mem_cons, List.not_mem_nil, or_false, forall_eq, l2, implies_true])
  have l4 := fs40yready hs hr (i := 4) fs40yo4 rfl (by omega) (by unfold fs40yo4; simp only [List.mem_toArray, List.not_mem_nil, false_implies, implies_true])
  have l5 := fs40yready hs hr (i := 5) fs40yo5 rfl (by omega) (by unfold fs40yo5; simp only [List.mem_toArray, List.mem_cons, List.not_mem_nil, or_false, forall_eq_or_imp, forall_eq, l3, l4, implies_true, and_self])
  have l6 := fs40yready hs hr (i := 6) fs40yo6 rfl (by omega) (by unfold fs40yo6; simp only [List.mem_toArray, List.mem_cons, List.not_mem_nil, or_false, forall_eq_or_imp, forall_eq, l0, l1, l3, l5, implies_true, and_self])
  have l7 := fs40yready hs hr (i := 7) fs40yo7 rfl (by omega) (by unfold fs40yo7; simp only [List.mem_toArray, List.mem_cons, List.not_mem_nil, or_false, forall_eq, l6, implies_true])
  have l8 := fs40yready hs hr (i := 8) fs40yo8 rfl (by omega) (by unfold fs40yo8; simp only [List.mem_toArray, List.mem_cons, List.not_mem_nil, or_false, forall_eq, l7, implies_true])
  have l9 := fs40yready hs hr (i := 9) fs40yo9 rfl (by omega) (by unfold fs40yo9; simp [Region.binds, l7])
  have l10 := fs40yready hs hr (i := 10) fs40yo10 rfl (by omega) (by unfold fs40yo10; simp [Region.binds, l0, l1, l2, l3, l4, l5, l6, l7, l8])
  have l11 := fs40yready hs hr (i := 11) fs40yo11 rfl (by omega) (by unfold fs40yo11; simp only [List.mem_toArray, List.mem_cons, List.not_mem_nil, or_false, forall_eq_or_imp, forall_eq, l0, l1, l2, l3, l4, l5, l6, l7, l8, l9, l10, implies_true, and_self])
  exact ⟨l0, l1, l2, l3, l4, l5, l6, l7, l8, l9, l10, l11⟩
theorem fs40ydep {listed : Array Bool} {i : Nat} (h : i ∈ Region.ready .any fs40yops listed) (o : Oper) (ho : fs40yops[i]? = some o) : listed.getD i true = false ∧ ∀ e ∈ o.after, Region.binds .any e = true → Lb listed e.on = true := by
  obtain ⟨h1, o', ho', hd⟩ := mem_ready.1 h
  rw [ho] at ho'
  cases ho'
  exact ⟨h1, hd⟩
set_option maxRecDepth 10000 in
set_option maxHeartbeats 2000000 in
theorem fs40ys0 {K2 S2 bx E S : List Int} {b15 b11 ga k ca : Nat} {ev q0 q2 q3 q4 q5 q6 q8 q9 q10 q12 q13 q14 q16 q17 q18 q19 q21 q22 q25 q26 q27 q28 q29 q30 q31 q32 q33 q34 q35 q36 q37 q38 q39 q40 q41 q42 q43 q44 q45 q46 q47 q48 q49 q50 q51 q52 q53 q54 q55 q56 q57 q58 q59 q60 q61 q62 q63 q64 q65 q66 q67 q68 q69 q70 q71 q72 q73 q74 q75 q76 q77 q78 q79 q80 q81 q82 q83 q84 q85 q86 q87 q88 q89 q90 q91 q92 q93 q94 q95 q96 q97 q98 q99 q100 q101 q102 q103 q104 q105 q106 q107 q108 q109 q110 q111 q112 q113 q114 q115 q116 q117 q118 q119 q120 q121 q122 q123 q124 q125 q126 q127 q128 q129 q130 q131 q132 q133 q134 q135 q136 q137 q138 q139 q140 q141 q142 q143 q144 q145 q146 q147 q148 q149 q150 q151 q152 q153 q154 q155 q156 q157 q158 q159 q160 q161 q162 q163 q164 q165 q166 q167 q168 q169 q170 q171 q182 q183 q184 q185 q186 q187 q188 q189 q190 q191 : Value} {W : World} {listed : Array Bool} {w : World} {y23 y24 y172 y173 y174 y175 y176 y177 y178 y179 y180 y181 : Value} {Q : Exit → Act → World → Prop} (h : fs40yIn K2 S2 bx E S b15 b11 ga k ca ev q0 q2 q3 q4 q5 q6 q8 q9 q10 q12 q13 q14 q16 q17 q18 q19 q21 q22 q25 q26 q27 q28 q29 q30 q31 q32 q33 q34 q35 q36 q37 q38 q39 q40 q41 q42 q43 q44 q45 q46 q47 q48 q49 q50 q51 q52 q53 q54 q55 q56 q57 q58 q59 q60 q61 q62 q63 q64 q65 q66 q67 q68 q69 q70 q71 q72 q73 q74 q75 q76 q77 q78 q79 q80 q81 q82 q83 q84 q85 q86 q87 q88 q89 q90 q91 q92 q93 q94 q95 q96 q97 q98 q99 q100 q101 q102 q103 q104 q105 q106 q107 q108 q109 q110 q111 q112 q113 q114 q115 q116 q117 q118 q119 q120 q121 q122 q123 q124 q125 q126 q127 q128 q129 q130 q131 q132 q133 q134 q135 q136 q137 q138 q139 q140 q141 q142 q143 q144 q145 q146 q147 q148 q149 q150 q151 q152 q153 q154 q155 q156 q157 q158 q159 q160 q161 q162 q163 q164 q165 q166 q167 q168 q169 q170 q171 q182 q183 q184 q185 q186 q187 q188 q189 q190 q191 W listed w y23 y24 y172 y173 y174 y175 y176 y177 y178 y179 y180 y181) (hi : 0 ∈ Region.ready .any fs40yops listed) (hrow : W.heap[b15]? = some (.cells (Iv .u8 K2) 22)) (hblt : b15 < W.heap.size) (hinf : (Tryd.prog.info? 22).map (·.size) = some ((Iv .u8 K2)).size) :
    wpList Tryd.prog fs40yops (atEnd (fs40yInv K2 S2 bx E S b15 b11 ga k ca ev q0 q2 q3 q4 q5 q6 q8 q9 q10 q12 q13 q14 q16 q17 q18 q19 q21 q22 q25 q26 q27 q28 q29 q30 q31 q32 q33 q34 q35 q36 q37 q38 q39 q40 q41 q42 q43 q44 q45 q46 q47 q48 q49 q50 q51 q52 q53 q54 q55 q56 q57 q58 q59 q60 q61 q62 q63 q64 q65 q66 q67 q68 q69 q70 q71 q72 q73 q74 q75 q76 q77 q78 q79 q80 q81 q82 q83 q84 q85 q86 q87 q88 q89 q90 q91 q92 q93 q94 q95 q96 q97 q98 q99 q100 q101 q102 q103 q104 q105 q106 q107 q108 q109 q110 q111 q112 q113 q114 q115 q116 q117 q118 q119 q120 q121 q122 q123 q124 q125 q126 q127 q128 q129 q130 q131 q132 q133 q134 q135 q136 q137 q138 q139 q140 q141 q142 q143 q144 q145 q146 q147 q148 q149 q150 q151 q152 q153 q154 q155 q156 q157 q158 q159 q160 q161 q162 q163 q164 q165 q166 q167 q168 q169 q170 q171 q182 q183 q184 q185 q186 q187 q188 q189 q190 q191 W (listed.setIfInBounds 0 true)) Q) [fs40yo0] (fs40yfr K2 S2 bx E S b15 b11 ga k ca ev q0 q2 q3 q4 q5 q6 q8 q9 q10 q12 q13 q14 q16 q17 q18 q19 q21 q22 q25 q26 q27 q28 q29 q30 q31 q32 q33 q34 q35 q36 q37 q38 q39 q40 q41 q42 q43 q44 q45 q46 q47 q48 q49 q50 q51 q52 q53 q54 q55 q56 q57 q58 q59 q60 q61 q62 q63 q64 q65 q66 q67 q68 q69 q70 q71 q72 q73 q74 q75 q76 q77 q78 q79 q80 q81 q82 q83 q84 q85 q86 q87 q88 q89 q90 q91 q92 q93 q94 q95 q96 q97 q98 q99 q100 q101 q102 q103 q104 q105 q106 q107 q108 q109 q110 q111 q112 q113 q114 q115 q116 q117 q118 q119 q120 q121 q122 q123 q124 q125 q126 q127 q128 q129 q130 q131 q132 q133 q134 q135 q136 q137 q138 q139 q140 q141 q142 q143 q144 q145 q146 q147 q148 q149 q150 q151 q152 q153 q154 q155 q156 q157 q158 q159 q160 q161 q162 q163 q164 q165 q166 q167 q168 q169 q170 q171 q182 q183 q184 q185 q186 q187 q188 q189 q190 q191 y23 y24 y172 y173 y174 y175 y176 y177 y178 y179 y180 y181) w := by
  obtain ⟨hn1, hdep⟩ := fs40ydep hi fs40yo0 rfl
  obtain ⟨hlt, hno⟩ := cha_no hn1
  have G0 : Hid _ := (h.bel.block _ hblt).trans hrow
  have hik : Hid _ := hinf
  have HH : Hid _ := h
  clear h hdep hn1 hrow hinf
  unfold fs40yfr fs40yo0
  go_wp2_with (refine wpList_load_row rfl 22 _ rfl (b15) rfl _ (Iv .u8 K2) _ _ G0.out Tryd.underlying22 rfl hik.out ?_)
  have h := HH.out
  have hb := Below.refl w.heap.size w
  refine ⟨_, _, _, _, _, _, _, _, _, _, _, _, rfl, {
    size := by simpa using h.size
    bel := h.bel.trans (hb.mono h.bel.size)
    p0 := fun _ => rfl
    p1 := fun hl => h.p1 (by rwa [Lb_ne (by omega)] at hl)
    p2 := fun hl => h.p2 (by rwa [Lb_ne (by omega)] at hl)
    p3 := fun hl => (h.p3 (by rwa [Lb_ne (by omega)] at hl)).later hb
    p4 := fun hl => h.p4 (by rwa [Lb_ne (by omega)] at hl)
    p5 := fun hl => (h.p5 (by rwa [Lb_ne (by omega)] at hl)).later hb
    p6 := fun hl => (h.p6 (by rwa [Lb_ne (by omega)] at hl)).later hb
    p7 := fun hl => ⟨by rw [Lb_ne (by omega)]; exact (h.p7 (by rwa [Lb_ne (by omega)] at hl)).1, (h.p7 (by rwa [Lb_ne (by omega)] at hl)).2⟩
    p8 := fun hl => ⟨by rw [Lb_ne (by omega)]; exact (h.p8 (by rwa [Lb_ne (by omega)] at hl)).1, (h.p8 (by rwa [Lb_ne (by omega)] at hl)).2⟩
    p9 := fun hl => h.p9 (by rwa [Lb_ne (by omega)] at hl)
    p10 := fun hl => ⟨by rw [Lb_ne (by omega)]; exact (h.p10 (by rwa [Lb_ne (by omega)] at hl)).1, (h.p10 (by rwa [Lb_ne (by omega)] at hl)).2⟩
    p11 := fun hl => h.p11 (by rwa [Lb_ne (by omega)] at hl) }⟩
set_option maxRecDepth 10000 in
set_option maxHeartbeats 2000000 in
theorem fs40ys1 {K2 S2 bx E S : List Int} {b15 b11 ga k ca : Nat} {ev q0 q2 q3 q4 q5 q6 q8 q9 q10 q12 q13 q14 q16 q17 q18 q19 q21 q22 q25 q26 q27 q28 q29 q30 q31 q32 q33 q34 q35 q36 q37 q38 q39 q40 q41 q42 q43 q44 q45 q46 q47 q48 q49 q50 q51 q52 q53 q54 q55 q56 q57 q58 q59 q60 q61 q62 q63 q64 q65 q66 q67 q68 q69 q70 q71 q72 q73 q74 q75 q76 q77 q78 q79 q80 q81 q82 q83 q84 q85 q86 q87 q88 q89 q90 q91 q92 q93 q94 q95 q96 q97 q98 q99 q100 q101 q102 q103 q104 q105 q106 q107 q108 q109 q110 q111 q112 q113 q114 q115 q116 q117 q118 q119 q120 q121 q122 q123 q124 q125 q126 q127 q128 q129 q130 q131 q132 q133 q134 q135 q136 q137 q138 q139 q140 q141 q142 q143 q144 q145 q146 q147 q148 q149 q150 q151 q152 q153 q154 q155 q156 q157 q158 q159 q160 q161 q162 q163 q164 q165 q166 q167 q168 q169 q170 q171 q182 q183 q184 q185 q186 q187 q188 q189 q190 q191 : Value} {W : World} {listed : Array Bool} {w : World} {y23 y24 y172 y173 y174 y175 y176 y177 y178 y179 y180 y181 : Value} {Q : Exit → Act → World → Prop} (h : fs40yIn K2 S2 bx E S b15 b11 ga k ca ev q0 q2 q3 q4 q5 q6 q8 q9 q10 q12 q13 q14 q16 q17 q18 q19 q21 q22 q25 q26 q27 q28 q29 q30 q31 q32 q33 q34 q35 q36 q37 q38 q39 q40 q41 q42 q43 q44 q45 q46 q47 q48 q49 q50 q51 q52 q53 q54 q55 q56 q57 q58 q59 q60 q61 q62 q63 q64 q65 q66 q67 q68 q69 q70 q71 q72 q73 q74 q75 q76 q77 q78 q79 q80 q81 q82 q83 q84 q85 q86 q87 q88 q89 q90 q91 q92 q93 q94 q95 q96 q97 q98 q99 q100 q101 q102 q103 q104 q105 q106 q107 q108 q109 q110 q111 q112 q113 q114 q115 q116 q117 q118 q119 q120 q121 q122 q123 q124 q125 q126 q127 q128 q129 q130 q131 q132 q133 q134 q135 q136 q137 q138 q139 q140 q141 q142 q143 q144 q145 q146 q147 q148 q149 q150 q151 q152 q153 q154 q155 q156 q157 q158 q159 q160 q161 q162 q163 q164 q165 q166 q167 q168 q169 q170 q171 q182 q183 q184 q185 q186 q187 q188 q189 q190 q191 W listed w y23 y24 y172 y173 y174 y175 y176 y177 y178 y179 y180 y181) (hi : 1 ∈ Region.ready .any fs40yops listed) (hrow : W.heap[b11]? = some (.cells (Iv .u8 S2) 23)) (hblt : b11 < W.heap.size) (hinf : (Tryd.prog.info? 23).map (·.size) = some ((Iv .u8 S2)).size) :
    wpList Tryd.prog fs40yops (atEnd (fs40yInv K2 S2 bx E S b15 b11 ga k ca ev q0 q2 q3 q4 q5 q6 q8 q9 q10 q12 q13 q14 q16 q17 q18 q19 q21 q22 q25 q26 q27 q28 q29 q30 q31 q32 q33 q34 q35 q36 q37 q38 q39 q40 q41 q42 q43 q44 q45 q46 q47 q48 q49 q50 q51 q52 q53 q54 q55 q56 q57 q58 q59 q60 q61 q62 q63 q64 q65 q66 q67 q68 q69 q70 q71 q72 q73 q74 q75 q76 q77 q78 q79 q80 q81 q82 q83 q84 q85 q86 q87 q88 q89 q90 q91 q92 q93 q94 q95 q96 q97 q98 q99 q100 q101 q102 q103 q104 q105 q106 q107 q108 q109 q110 q111 q112 q113 q114 q115 q116 q117 q118 q119 q120 q121 q122 q123 q124 q125 q126 q127 q128 q129 q130 q131 q132 q133 q134 q135 q136 q137 q138 q139 q140 q141 q142 q143 q144 q145 q146 q147 q148 q149 q150 q151 q152 q153 q154 q155 q156 q157 q158 q159 q160 q161 q162 q163 q164 q165 q166 q167 q168 q169 q170 q171 q182 q183 q184 q185 q186 q187 q188 q189 q190 q191 W (listed.setIfInBounds 1 true)) Q) [fs40yo1] (fs40yfr K2 S2 bx E S b15 b11 ga k ca ev q0 q2 q3 q4 q5 q6 q8 q9 q10 q12 q13 q14 q16 q17 q18 q19 q21 q22 q25 q26 q27 q28 q29 q30 q31 q32 q33 q34 q35 q36 q37 q38 q39 q40 q41 q42 q43 q44 q45 q46 q47 q48 q49 q50 q51 q52 q53 q54 q55 q56 q57 q58 q59 q60 q61 q62 q63 q64 q65 q66 q67 q68 q69 q70 q71 q72 q73 q74 q75 q76 q77 q78 q79 q80 q81 q82 q83 q84 q85 q86 q87 q88 q89 q90 q91 q92 q93 q94 q95 q96 q97 q98 q99 q100 q101 q102 q103 q104 q105 q106 q107 q108 q109 q110 q111 q112 q113 q114 q115 q116 q117 q118 q119 q120 q121 q122 q123 q124 q125 q126 q127 q128 q129 q130 q131 q132 q133 q134 q135 q136 q137 q138 q139 q140 q141 q142 q143 q144 q145 q146 q147 q148 q149 q150 q151 q152 q153 q154 q155 q156 q157 q158 q159 q160 q161 q162 q163 q164 q165 q166 q167 q168 q169 q170 q171 q182 q183 q184 q185 q186 q187 q188 q189 q190 q191 y23 y24 y172 y173 y174 y175 y176 y177 y178 y179 y180 y181) w := by
  obtain ⟨hn1, hdep⟩ := fs40ydep hi fs40yo1 rfl
  obtain ⟨hlt, hno⟩ := cha_no hn1
  have G0 : Hid _ := (h.bel.block _ hblt).trans hrow
  have hik : Hid _ := hinf
  have HH : Hid _ := h
  clear h hdep hn1 hrow hinf
  unfold fs40yfr fs40yo1
  go_wp2_with (refine wpList_load_row rfl 23 _ rfl (b11) rfl _ (Iv .u8 S2) _ _ G0.out Tryd.underlying23 rfl hik.out ?_)
  have h := HH.out
  have hb := Below.refl w.heap.size w
  refine ⟨_, _, _, _, _, _, _, _, _, _, _, _, rfl, {
    size := by simpa using h.size
    bel := h.bel.trans (hb.mono h.bel.size)
    p0 := fun hl => h.p0 (by rwa [Lb_ne (by omega)] at hl)
    p1 := fun _ => rfl
    p2 := fun hl => h.p2 (by rwa [Lb_ne (by omega)] at hl)
    p3 := fun hl => (h.p3 (by rwa [Lb_ne (by omega)] at hl)).later hb
    p4 := fun hl => h.p4 (by rwa [Lb_ne (by omega)] at hl)
    p5 := fun hl => (h.p5 (by rwa [Lb_ne (by omega)] at hl)).later hb
    p6 := fun hl => (h.p6 (by rwa [Lb_ne (by omega)] at hl)).later hb
    p7 := fun hl => ⟨by rw [Lb_ne (by omega)]; exact (h.p7 (by rwa [Lb_ne (by omega)] at hl)).1, (h.p7 (by rwa [Lb_ne (by omega)] at hl)).2⟩
    p8 := fun hl => ⟨by rw [Lb_ne (by omega)]; exact (h.p8 (by rwa [Lb_ne (by omega)] at hl)).1, (h.p8 (by rwa [Lb_ne (by omega)] at hl)).2⟩
    p9 := fun hl => h.p9 (by rwa [Lb_ne (by omega)] at hl)
    p10 := fun hl => ⟨by rw [Lb_ne (by omega)]; exact (h.p10 (by rwa [Lb_ne (by omega)] at hl)).1, (h.p10 (by rwa [Lb_ne (by omega)] at hl)).2⟩
    p11 := fun hl => h.p11 (by rwa [Lb_ne (by omega)] at hl) }⟩
set_option maxRecDepth 10000 in
set_option maxHeartbeats 2000000 in
theorem fs40ys2 {K2 S2 bx E S : List Int} {b15 b11 ga k ca : Nat} {ev q0 q2 q3 q4 q5 q6 q8 q9 q10 q12 q13 q14 q16 q17 q18 q19 q21 q22 q25 q26 q27 q28 q29 q30 q31 q32 q33 q34 q35 q36 q37 q38 q39 q40 q41 q42 q43 q44 q45 q46 q47 q48 q49 q50 q51 q52 q53 q54 q55 q56 q57 q58 q59 q60 q61 q62 q63 q64 q65 q66 q67 q68 q69 q70 q71 q72 q73 q74 q75 q76 q77 q78 q79 q80 q81 q82 q83 q84 q85 q86 q87 q88 q89 q90 q91 q92 q93 q94 q95 q96 q97 q98 q99 q100 q101 q102 q103 q104 q105 q106 q107 q108 q109 q110 q111 q112 q113 q114 q115 q116 q117 q118 q119 q120 q121 q122 q123 q124 q125 q126 q127 q128 q129 q130 q131 q132 q133 q134 q135 q136 q137 q138 q139 q140 q141 q142 q143 q144 q145 q146 q147 q148 q149 q150 q151 q152 q153 q154 q155 q156 q157 q158 q159 q160 q161 q162 q163 q164 q165 q166 q167 q168 q169 q170 q171 q182 q183 q184 q185 q186 q187 q188 q189 q190 q191 : Value} {W : World} {listed : Array Bool} {w : World} {y23 y24 y172 y173 y174 y175 y176 y177 y178 y179 y180 y181 : Value} {Q : Exit → Act → World → Prop} (h : fs40yIn K2 S2 bx E S b15 b11 ga k ca ev q0 q2 q3 q4 q5 q6 q8 q9 q10 q12 q13 q14 q16 q17 q18 q19 q21 q22 q25 q26 q27 q28 q29 q30 q31 q32 q33 q34 q35 q36 q37 q38 q39 q40 q41 q42 q43 q44 q45 q46 q47 q48 q49 q50 q51 q52 q53 q54 q55 q56 q57 q58 q59 q60 q61 q62 q63 q64 q65 q66 q67 q68 q69 q70 q71 q72 q73 q74 q75 q76 q77 q78 q79 q80 q81 q82 q83 q84 q85 q86 q87 q88 q89 q90 q91 q92 q93 q94 q95 q96 q97 q98 q99 q100 q101 q102 q103 q104 q105 q106 q107 q108 q109 q110 q111 q112 q113 q114 q115 q116 q117 q118 q119 q120 q121 q122 q123 q124 q125 q126 q127 q128 q129 q130 q131 q132 q133 q134 q135 q136 q137 q138 q139 q140 q141 q142 q143 q144 q145 q146 q147 q148 q149 q150 q151 q152 q153 q154 q155 q156 q157 q158 q159 q160 q161 q162 q163 q164 q165 q166 q167 q168 q169 q170 q171 q182 q183 q184 q185 q186 q187 q188 q189 q190 q191 W listed w y23 y24 y172 y173 y174 y175 y176 y177 y178 y179 y180 y181) (hi : 2 ∈ Region.ready .any fs40yops listed) :
    wpList Tryd.prog fs40yops (atEnd (fs40yInv K2 S2 bx E S b15 b11 ga k ca ev q0 q2 q3 q4 q5 q6 q8 q9 q10 q12 q13 q14 q16 q17 q18 q19 q21 q22 q25 q26 q27 q28 q29 q30 q31 q32 q33 q34 q35 q36 q37 q38 q39 q40 q41 q42 q43 q44 q45 q46 q47 q48 q49 q50 q51 q52 q53 q54 q55 q56 q57 q58 q59 q60 q61 q62 q63 q64 q65 q66 q67 q68 q69 q70 q71 q72 q73 q74 q75 q76 q77 q78 q79 q80 q81 q82 q83 q84 q85 q86 q87 q88 q89 q90 q91 q92 q93 q94 q95 q96 q97 q98 q99 q100 q101 q102 q103 q104 q105 q106 q107 q108 q109 q110 q111 q112 q113 q114 q115 q116 q117 q118 q119 q120 q121 q122 q123 q124 q125 q126 q127 q128 q129 q130 q131 q132 q133 q134 q135 q136 q137 q138 q139 q140 q141 q142 q143 q144 q145 q146 q147 q148 q149 q150 q151 q152 q153 q154 q155 q156 q157 q158 q159 q160 q161 q162 q163 q164 q165 q166 q167 q168 q169 q170 q171 q182 q183 q184 q185 q186 q187 q188 q189 q190 q191 W (listed.setIfInBounds 2 true)) Q) [fs40yo2] (fs40yfr K2 S2 bx E S b15 b11 ga k ca ev q0 q2 q3 q4 q5 q6 q8 q9 q10 q12 q13 q14 q16 q17 q18 q19 q21 q22 q25 q26 q27 q28 q29 q30 q31 q32 q33 q34 q35 q36 q37 q38 q39 q40 q41 q42 q43 q44 q45 q46 q47 q48 q49 q50 q51 q52 q53 q54 q55 q56 q57 q58 q59 q60 q61 q62 q63 q64 q65 q66 q67 q68 q69 q70 q71 q72 q73 q74 q75 q76 q77 q78 q79 q80 q81 q82 q83 q84 q85 q86 q87 q88 q89 q90 q91 q92 q93 q94 q95 q96 q97 q98 q99 q100 q101 q102 q103 q104 q105 q106 q107 q108 q109 q110 q111 q112 q113 q114 q115 q116 q117 q118 q119 q120 q121 q122 q123 q124 q125 q126 q127 q128 q129 q130 q131 q132 q133 q134 q135 q136 q137 q138 q139 q140 q141 q142 q143 q144 q145 q146 q147 q148 q149 q150 q151 q152 q153 q154 q155 q156 q157 q158 q159 q160 q161 q162 q163 q164 q165 q166 q167 q168 q169 q170 q171 q182 q183 q184 q185 q186 q187 q188 q189 q190 q191 y23 y24 y172 y173 y174 y175 y176 y177 y178 y179 y180 y181) w := by
  obtain ⟨hn1, hdep⟩ := fs40ydep hi fs40yo2 rfl
  obtain ⟨hlt, hno⟩ := cha_no hn1
  have HH : Hid _ := h
  clear h hdep hn1
  unfold fs40yfr fs40yo2
  go_wp2_with fail
  have h := HH.out
  have hb := Below.refl w.heap.size w
  refine ⟨_, _, _, _, _, _, _, _, _, _, _, _, rfl, {
    size := by simpa using h.size
    bel := h.bel.trans (hb.mono h.bel.size)
    p0 := fun hl => h.p0 (by rwa [Lb_ne (by omega)] at hl)
    p1 := fun hl => h.p1 (by rwa [Lb_ne (by omega)] at hl)
    p2 := fun _ => rfl
    p3 := fun hl => (h.p3 (by rwa [Lb_ne (by omega)] at hl)).later hb
    p4 := fun hl => h.p4 (by rwa [Lb_ne (by omega)] at hl)
    p5 := fun hl => (h.p5 (by rwa [Lb_ne (by omega)] at hl)).later hb
    p6 := fun hl => (h.p6 (by rwa [Lb_ne (by omega)] at hl)).later hb
    p7 := fun hl => ⟨by rw [Lb_ne (by omega)]; exact (h.p7 (by rwa [Lb_ne (by omega)] at hl)).1, (h.p7 (by rwa [Lb_ne (by omega)] at hl)).2⟩
    p8 := fun hl => ⟨by rw [Lb_ne (by omega)]; exact (h.p8 (by rwa [Lb_ne (by omega)] at hl)).1, (h.p8 (by rwa [Lb_ne (by omega)] at hl)).2⟩
    p9 := fun hl => h.p9 (by rwa [Lb_ne (by omega)] at hl)
    p10 := fun hl => ⟨by rw [Lb_ne (by omega)]; exact (h.p10 (by rwa [Lb_ne (by omega)] at hl)).1, (h.p10 (by rwa [Lb_ne (by omega)] at hl)).2⟩
    p11 := fun hl => h.p11 (by rwa [Lb_ne (by omega)] at hl) }⟩
set_option maxRecDepth 10000 in
set_option maxHeartbeats 2000000 in
theorem fs40ys3 {K2 S2 bx E S : List Int} {b15 b11 ga k ca : Nat} {ev q0 q2 q3 q4 q5 q6 q8 q9 q10 q12 q13 q14 q16 q17 q18 q19 q21 q22 q25 q26 q27 q28 q29 q30 q31 q32 q33 q34 q35 q36 q37 q38 q39 q40 q41 q42 q43 q44 q45 q46 q47 q48 q49 q50 q51 q52 q53 q54 q55 q56 q57 q58 q59 q60 q61 q62 q63 q64 q65 q66 q67 q68 q69 q70 q71 q72 q73 q74 q75 q76 q77 q78 q79 q80 q81 q82 q83 q84 q85 q86 q87 q88 q89 q90 q91 q92 q93 q94 q95 q96 q97 q98 q99 q100 q101 q102 q103 q104 q105 q106 q107 q108 q109 q110 q111 q112 q113 q114 q115 q116 q117 q118 q119 q120 q121 q122 q123 q124 q125 q126 q127 q128 q129 q130 q131 q132 q133 q134 q135 q136 q137 q138 q139 q140 q141 q142 q143 q144 q145 q146 q147 q148 q149 q150 q151 q152 q153 q154 q155 q156 q157 q158 q159 q160 q161 q162 q163 q164 q165 q166 q167 q168 q169 q170 q171 q182 q183 q184 q185 q186 q187 q188 q189 q190 q191 : Value} {W : World} {listed : Array Bool} {w : World} {y23 y24 y172 y173 y174 y175 y176 y177 y178 y179 y180 y181 : Value} {Q : Exit → Act → World → Prop} (h : fs40yIn K2 S2 bx E S b15 b11 ga k ca ev q0 q2 q3 q4 q5 q6 q8 q9 q10 q12 q13 q14 q16 q17 q18 q19 q21 q22 q25 q26 q27 q28 q29 q30 q31 q32 q33 q34 q35 q36 q37 q38 q39 q40 q41 q42 q43 q44 q45 q46 q47 q48 q49 q50 q51 q52 q53 q54 q55 q56 q57 q58 q59 q60 q61 q62 q63 q64 q65 q66 q67 q68 q69 q70 q71 q72 q73 q74 q75 q76 q77 q78 q79 q80 q81 q82 q83 q84 q85 q86 q87 q88 q89 q90 q91 q92 q93 q94 q95 q96 q97 q98 q99 q100 q101 q102 q103 q104 q105 q106 q107 q108 q109 q110 q111 q112 q113 q114 q115 q116 q117 q118 q119 q120 q121 q122 q123 q124 q125 q126 q127 q128 q129 q130 q131 q132 q133 q134 q135 q136 q137 q138 q139 q140 q141 q142 q143 q144 q145 q146 q147 q148 q149 q150 q151 q152 q153 q154 q155 q156 q157 q158 q159 q160 q161 q162 q163 q164 q165 q166 q167 q168 q169 q170 q171 q182 q183 q184 q185 q186 q187 q188 q189 q190 q191 W listed w y23 y24 y172 y173 y174 y175 y176 y177 y178 y179 y180 y181) (hi : 3 ∈ Region.ready .any fs40yops listed) (hcon : ∀ w, Below W.heap.size W w → Calls Tryd.prog 29 #[.slice (some ⟨ga, 0, none⟩) (k + 16) ca] w fun e w' => ∃ v, e = .returned v ∧ OwnN .u8 5 w.heap.size w' v bx ∧ Below w.heap.size w w') :
    wpList Tryd.prog fs40yops (atEnd (fs40yInv K2 S2 bx E S b15 b11 ga k ca ev q0 q2 q3 q4 q5 q6 q8 q9 q10 q12 q13 q14 q16 q17 q18 q19 q21 q22 q25 q26 q27 q28 q29 q30 q31 q32 q33 q34 q35 q36 q37 q38 q39 q40 q41 q42 q43 q44 q45 q46 q47 q48 q49 q50 q51 q52 q53 q54 q55 q56 q57 q58 q59 q60 q61 q62 q63 q64 q65 q66 q67 q68 q69 q70 q71 q72 q73 q74 q75 q76 q77 q78 q79 q80 q81 q82 q83 q84 q85 q86 q87 q88 q89 q90 q91 q92 q93 q94 q95 q96 q97 q98 q99 q100 q101 q102 q103 q104 q105 q106 q107 q108 q109 q110 q111 q112 q113 q114 q115 q116 q117 q118 q119 q120 q121 q122 q123 q124 q125 q126 q127 q128 q129 q130 q131 q132 q133 q134 q135 q136 q137 q138 q139 q140 q141 q142 q143 q144 q145 q146 q147 q148 q149 q150 q151 q152 q153 q154 q155 q156 q157 q158 q159 q160 q161 q162 q163 q164 q165 q166 q167 q168 q169 q170 q171 q182 q183 q184 q185 q186 q187 q188 q189 q190 q191 W (listed.setIfInBounds 3 true)) Q) [fs40yo3] (fs40yfr K2 S2 bx E S b15 b11 ga k ca ev q0 q2 q3 q4 q5 q6 q8 q9 q10 q12 q13 q14 q16 q17 q18 q19 q21 q22 q25 q26 q27 q28 q29 q30 q31 q32 q33 q34 q35 q36 q37 q38 q39 q40 q41 q42 q43 q44 q45 q46 q47 q48 q49 q50 q51 q52 q53 q54 q55 q56 q57 q58 q59 q60 q61 q62 q63 q64 q65 q66 q67 q68 q69 q70 q71 q72 q73 q74 q75 q76 q77 q78 q79 q80 q81 q82 q83 q84 q85 q86 q87 q88 q89 q90 q91 q92 q93 q94 q95 q96 q97 q98 q99 q100 q101 q102 q103 q104 q105 q106 q107 q108 q109 q110 q111 q112 q113 q114 q115 q116 q117 q118 q119 q120 q121 q122 q123 q124 q125 q126 q127 q128 q129 q130 q131 q132 q133 q134 q135 q136 q137 q138 q139 q140 q141 q142 q143 q144 q145 q146 q147 q148 q149 q150 q151 q152 q153 q154 q155 q156 q157 q158 q159 q160 q161 q162 q163 q164 q165 q166 q167 q168 q169 q170 q171 q182 q183 q184 q185 q186 q187 q188 q189 q190 q191 y23 y24 y172 y173 y174 y175 y176 y177 y178 y179 y180 y181) w := by
  obtain ⟨hn1, hdep⟩ := fs40ydep hi fs40yo3 rfl
  obtain ⟨hlt, hno⟩ := cha_no hn1
  have l2 : Lb listed 2 = true := hdep { on := 2, ground := Ground.data } (by unfold fs40yo3; simp) rfl
  obtain rfl := h.p2 l2
  have HC : Hid _ := hcon w  h.bel 
  have HH : Hid _ := h
  clear h hdep hn1 hcon
  unfold fs40yfr fs40yo3
  go_wp2_with fail
  refine Calls.mono HC.out ?_
  rintro e w' ⟨v, rfl, ho, hb⟩
  go_wp2_with fail
  have h := HH.out
  refine ⟨_, _, _, _, _, _, _, _, _, _, _, _, rfl, {
    size := by simpa using h.size
    bel := h.bel.trans (hb.mono h.bel.size)
    p0 := fun hl => h.p0 (by rwa [Lb_ne (by omega)] at hl)
    p1 := fun hl => h.p1 (by rwa [Lb_ne (by omega)] at hl)
    p2 := fun hl => h.p2 (by rwa [Lb_ne (by omega)] at hl)
    p3 := fun _ => ho.mono h.bel.size
    p4 := fun hl => h.p4 (by rwa [Lb_ne (by omega)] at hl)
    p5 := fun hl => (h.p5 (by rwa [Lb_ne (by omega)] at hl)).later hb
    p6 := fun hl => (h.p6 (by rwa [Lb_ne (by omega)] at hl)).later hb
    p7 := fun hl => ⟨by rw [Lb_ne (by omega)]; exact (h.p7 (by rwa [Lb_ne (by omega)] at hl)).1, (h.p7 (by rwa [Lb_ne (by omega)] at hl)).2⟩
    p8 := fun hl => ⟨by rw [Lb_ne (by omega)]; exact (h.p8 (by rwa [Lb_ne (by omega)] at hl)).1, (h.p8 (by rwa [Lb_ne (by omega)] at hl)).2⟩
    p9 := fun hl => h.p9 (by rwa [Lb_ne (by omega)] at hl)
    p10 := fun hl => ⟨by rw [Lb_ne (by omega)]; exact (h.p10 (by rwa [Lb_ne (by omega)] at hl)).1, (h.p10 (by rwa [Lb_ne (by omega)] at hl)).2⟩
    p11 := fun hl => h.p11 (by rwa [Lb_ne (by omega)] at hl) }⟩
set_option maxRecDepth 10000 in
set_option maxHeartbeats 2000000 in
theorem fs40ys4 {K2 S2 bx E S : List Int} {b15 b11 ga k ca : Nat} {ev q0 q2 q3 q4 q5 q6 q8 q9 q10 q12 q13 q14 q16 q17 q18 q19 q21 q22 q25 q26 q27 q28 q29 q30 q31 q32 q33 q34 q35 q36 q37 q38 q39 q40 q41 q42 q43 q44 q45 q46 q47 q48 q49 q50 q51 q52 q53 q54 q55 q56 q57 q58 q59 q60 q61 q62 q63 q64 q65 q66 q67 q68 q69 q70 q71 q72 q73 q74 q75 q76 q77 q78 q79 q80 q81 q82 q83 q84 q85 q86 q87 q88 q89 q90 q91 q92 q93 q94 q95 q96 q97 q98 q99 q100 q101 q102 q103 q104 q105 q106 q107 q108 q109 q110 q111 q112 q113 q114 q115 q116 q117 q118 q119 q120 q121 q122 q123 q124 q125 q126 q127 q128 q129 q130 q131 q132 q133 q134 q135 q136 q137 q138 q139 q140 q141 q142 q143 q144 q145 q146 q147 q148 q149 q150 q151 q152 q153 q154 q155 q156 q157 q158 q159 q160 q161 q162 q163 q164 q165 q166 q167 q168 q169 q170 q171 q182 q183 q184 q185 q186 q187 q188 q189 q190 q191 : Value} {W : World} {listed : Array Bool} {w : World} {y23 y24 y172 y173 y174 y175 y176 y177 y178 y179 y180 y181 : Value} {Q : Exit → Act → World → Prop} (h : fs40yIn K2 S2 bx E S b15 b11 ga k ca ev q0 q2 q3 q4 q5 q6 q8 q9 q10 q12 q13 q14 q16 q17 q18 q19 q21 q22 q25 q26 q27 q28 q29 q30 q31 q32 q33 q34 q35 q36 q37 q38 q39 q40 q41 q42 q43 q44 q45 q46 q47 q48 q49 q50 q51 q52 q53 q54 q55 q56 q57 q58 q59 q60 q61 q62 q63 q64 q65 q66 q67 q68 q69 q70 q71 q72 q73 q74 q75 q76 q77 q78 q79 q80 q81 q82 q83 q84 q85 q86 q87 q88 q89 q90 q91 q92 q93 q94 q95 q96 q97 q98 q99 q100 q101 q102 q103 q104 q105 q106 q107 q108 q109 q110 q111 q112 q113 q114 q115 q116 q117 q118 q119 q120 q121 q122 q123 q124 q125 q126 q127 q128 q129 q130 q131 q132 q133 q134 q135 q136 q137 q138 q139 q140 q141 q142 q143 q144 q145 q146 q147 q148 q149 q150 q151 q152 q153 q154 q155 q156 q157 q158 q159 q160 q161 q162 q163 q164 q165 q166 q167 q168 q169 q170 q171 q182 q183 q184 q185 q186 q187 q188 q189 q190 q191 W listed w y23 y24 y172 y173 y174 y175 y176 y177 y178 y179 y180 y181) (hi : 4 ∈ Region.ready .any fs40yops listed) :
    wpList Tryd.prog fs40yops (atEnd (fs40yInv K2 S2 bx E S b15 b11 ga k ca ev q0 q2 q3 q4 q5 q6 q8 q9 q10 q12 q13 q14 q16 q17 q18 q19 q21 q22 q25 q26 q27 q28 q29 q30 q31 q32 q33 q34 q35 q36 q37 q38 q39 q40 q41 q42 q43 q44 q45 q46 q47 q48 q49 q50 q51 q52 q53 q54 q55 q56 q57 q58 q59 q60 q61 q62 q63 q64 q65 q66 q67 q68 q69 q70 q71 q72 q73 q74 q75 q76 q77 q78 q79 q80 q81 q82 q83 q84 q85 q86 q87 q88 q89 q90 q91 q92 q93 q94 q95 q96 q97 q98 q99 q100 q101 q102 q103 q104 q105 q106 q107 q108 q109 q110 q111 q112 q113 q114 q115 q116 q117 q118 q119 q120 q121 q122 q123 q124 q125 q126 q127 q128 q129 q130 q131 q132 q133 q134 q135 q136 q137 q138 q139 q140 q141 q142 q143 q144 q145 q146 q147 q148 q149 q150 q151 q152 q153 q154 q155 q156 q157 q158 q159 q160 q161 q162 q163 q164 q165 q166 q167 q168 q169 q170 q171 q182 q183 q184 q185 q186 q187 q188 q189 q190 q191 W (listed.setIfInBounds 4 true)) Q) [fs40yo4] (fs40yfr K2 S2 bx E S b15 b11 ga k ca ev q0 q2 q3 q4 q5 q6 q8 q9 q10 q12 q13 q14 q16 q17 q18 q19 q21 q22 q25 q26 q27 q28 q29 q30 q31 q32 q33 q34 q35 q36 q37 q38 q39 q40 q41 q42 q43 q44 q45 q46 q47 q48 q49 q50 q51 q52 q53 q54 q55 q56 q57 q58 q59 q60 q61 q62 q63 q64 q65 q66 q67 q68 q69 q70 q71 q72 q73 q74 q75 q76 q77 q78 q79 q80 q81 q82 q83 q84 q85 q86 q87 q88 q89 q90 q91 q92 q93 q94 q95 q96 q97 q98 q99 q100 q101 q102 q103 q104 q105 q106 q107 q108 q109 q110 q111 q112 q113 q114 q115 q116 q117 q118 q119 q120 q121 q122 q123 q124 q125 q126 q127 q128 q129 q130 q131 q132 q133 q134 q135 q136 q137 q138 q139 q140 q141 q142 q143 q144 q145 q146 q147 q148 q149 q150 q151 q152 q153 q154 q155 q156 q157 q158 q159 q160 q161 q162 q163 q164 q165 q166 q167 q168 q169 q170 q171 q182 q183 q184 q185 q186 q187 q188 q189 q190 q191 y23 y24 y172 y173 y174 y175 y176 y177 y178 y179 y180 y181) w := by
  obtain ⟨hn1, hdep⟩ := fs40ydep hi fs40yo4 rfl
  obtain ⟨hlt, hno⟩ := cha_no hn1
  have HH : Hid _ := h
  clear h hdep hn1
  unfold fs40yfr fs40yo4
  go_wp2_with fail
  have h := HH.out
  have hb := Below.refl w.heap.size w
  refine ⟨_, _, _, _, _, _, _, _, _, _, _, _, rfl, {
    size := by simpa using h.size
    bel := h.bel.trans (hb.mono h.bel.size)
    p0 := fun hl => h.p0 (by rwa [Lb_ne (by omega)] at hl)
    p1 := fun hl => h.p1 (by rwa [Lb_ne (by omega)] at hl)
    p2 := fun hl => h.p2 (by rwa [Lb_ne (by omega)] at hl)
    p3 := fun hl => (h.p3 (by rwa [Lb_ne (by omega)] at hl)).later hb
    p4 := fun _ => rfl
    p5 := fun hl => (h.p5 (by rwa [Lb_ne (by omega)] at hl)).later hb
    p6 := fun hl => (h.p6 (by rwa [Lb_ne (by omega)] at hl)).later hb
    p7 := fun hl => ⟨by rw [Lb_ne (by omega)]; exact (h.p7 (by rwa [Lb_ne (by omega)] at hl)).1, (h.p7 (by rwa [Lb_ne (by omega)] at hl)).2⟩
    p8 := fun hl => ⟨by rw [Lb_ne (by omega)]; exact (h.p8 (by rwa [Lb_ne (by omega)] at hl)).1, (h.p8 (by rwa [Lb_ne (by omega)] at hl)).2⟩
    p9 := fun hl => h.p9 (by rwa [Lb_ne (by omega)] at hl)
    p10 := fun hl => ⟨by rw [Lb_ne (by omega)]; exact (h.p10 (by rwa [Lb_ne (by omega)] at hl)).1, (h.p10 (by rwa [Lb_ne (by omega)] at hl)).2⟩
    p11 := fun hl => h.p11 (by rwa [Lb_ne (by omega)] at hl) }⟩
set_option maxRecDepth 10000 in
set_option maxHeartbeats 2000000 in
theorem fs40ys5 {K2 S2 bx E S : List Int} {b15 b11 ga k ca : Nat} {ev q0 q2 q3 q4 q5 q6 q8 q9 q10 q12 q13 q14 q16 q17 q18 q19 q21 q22 q25 q26 q27 q28 q29 q30 q31 q32 q33 q34 q35 q36 q37 q38 q39 q40 q41 q42 q43 q44 q45 q46 q47 q48 q49 q50 q51 q52 q53 q54 q55 q56 q57 q58 q59 q60 q61 q62 q63 q64 q65 q66 q67 q68 q69 q70 q71 q72 q73 q74 q75 q76 q77 q78 q79 q80 q81 q82 q83 q84 q85 q86 q87 q88 q89 q90 q91 q92 q93 q94 q95 q96 q97 q98 q99 q100 q101 q102 q103 q104 q105 q106 q107 q108 q109 q110 q111 q112 q113 q114 q115 q116 q117 q118 q119 q120 q121 q122 q123 q124 q125 q126 q127 q128 q129 q130 q131 q132 q133 q134 q135 q136 q137 q138 q139 q140 q141 q142 q143 q144 q145 q146 q147 q148 q149 q150 q151 q152 q153 q154 q155 q156 q157 q158 q159 q160 q161 q162 q163 q164 q165 q166 q167 q168 q169 q170 q171 q182 q183 q184 q185 q186 q187 q188 q189 q190 q191 : Value} {W : World} {listed : Array Bool} {w : World} {y23 y24 y172 y173 y174 y175 y176 y177 y178 y179 y180 y181 : Value} {Q : Exit → Act → World → Prop} (h : fs40yIn K2 S2 bx E S b15 b11 ga k ca ev q0 q2 q3 q4 q5 q6 q8 q9 q10 q12 q13 q14 q16 q17 q18 q19 q21 q22 q25 q26 q27 q28 q29 q30 q31 q32 q33 q34 q35 q36 q37 q38 q39 q40 q41 q42 q43 q44 q45 q46 q47 q48 q49 q50 q51 q52 q53 q54 q55 q56 q57 q58 q59 q60 q61 q62 q63 q64 q65 q66 q67 q68 q69 q70 q71 q72 q73 q74 q75 q76 q77 q78 q79 q80 q81 q82 q83 q84 q85 q86 q87 q88 q89 q90 q91 q92 q93 q94 q95 q96 q97 q98 q99 q100 q101 q102 q103 q104 q105 q106 q107 q108 q109 q110 q111 q112 q113 q114 q115 q116 q117 q118 q119 q120 q121 q122 q123 q124 q125 q126 q127 q128 q129 q130 q131 q132 q133 q134 q135 q136 q137 q138 q139 q140 q141 q142 q143 q144 q145 q146 q147 q148 q149 q150 q151 q152 q153 q154 q155 q156 q157 q158 q159 q160 q161 q162 q163 q164 q165 q166 q167 q168 q169 q170 q171 q182 q183 q184 q185 q186 q187 q188 q189 q190 q191 W listed w y23 y24 y172 y173 y174 y175 y176 y177 y178 y179 y180 y181) (hi : 5 ∈ Region.ready .any fs40yops listed) (hcon : ∀ w, Below W.heap.size W w → Calls Tryd.prog 29 #[ev] w fun e w' => ∃ v, e = .returned v ∧ OwnN .u8 5 w.heap.size w' v E ∧ Below w.heap.size w w') :
    wpList Tryd.prog fs40yops (atEnd (fs40yInv K2 S2 bx E S b15 b11 ga k ca ev q0 q2 q3 q4 q5 q6 q8 q9 q10 q12 q13 q14 q16 q17 q18 q19 q21 q22 q25 q26 q27 q28 q29 q30 q31 q32 q33 q34 q35 q36 q37 q38 q39 q40 q41 q42 q43 q44 q45 q46 q47 q48 q49 q50 q51 q52 q53 q54 q55 q56 q57 q58 q59 q60 q61 q62 q63 q64 q65 q66 q67 q68 q69 q70 q71 q72 q73 q74 q75 q76 q77 q78 q79 q80 q81 q82 q83 q84 q85 q86 q87 q88 q89 q90 q91 q92 q93 q94 q95 q96 q97 q98 q99 q100 q101 q102 q103 q104 q105 q106 q107 q108 q109 q110 q111 q112 q113 q114 q115 q116 q117 q118 q119 q120 q121 q122 q123 q124 q125 q126 q127 q128 q129 q130 q131 q132 q133 q134 q135 q136 q137 q138 q139 q140 q141 q142 q143 q144 q145 q146 q147 q148 q149 q150 q151 q152 q153 q154 q155 q156 q157 q158 q159 q160 q161 q162 q163 q164 q165 q166 q167 q168 q169 q170 q171 q182 q183 q184 q185 q186 q187 q188 q189 q190 q191 W (listed.setIfInBounds 5 true)) Q) [fs40yo5] (fs40yfr K2 S2 bx E S b15 b11 ga k ca ev q0 q2 q3 q4 q5 q6 q8 q9 q10 q12 q13 q14 q16 q17 q18 q19 q21 q22 q25 q26 q27 q28 q29 q30 q31 q32 q33 q34 q35 q36 q37 q38 q39 q40 q41 q42 q43 q44 q45 q46 q47 q48 q49 q50 q51 q52 q53 q54 q55 q56 q57 q58 q59 q60 q61 q62 q63 q64 q65 q66 q67 q68 q69 q70 q71 q72 q73 q74 q75 q76 q77 q78 q79 q80 q81 q82 q83 q84 q85 q86 q87 q88 q89 q90 q91 q92 q93 q94 q95 q96 q97 q98 q99 q100 q101 q102 q103 q104 q105 q106 q107 q108 q109 q110 q111 q112 q113 q114 q115 q116 q117 q118 q119 q120 q121 q122 q123 q124 q125 q126 q127 q128 q129 q130 q131 q132 q133 q134 q135 q136 q137 q138 q139 q140 q141 q142 q143 q144 q145 q146 q147 q148 q149 q150 q151 q152 q153 q154 q155 q156 q157 q158 q159 q160 q161 q162 q163 q164 q165 q166 q167 q168 q169 q170 q171 q182 q183 q184 q185 q186 q187 q188 q189 q190 q191 y23 y24 y172 y173 y174 y175 y176 y177 y178 y179 y180 y181) w := by
  obtain ⟨hn1, hdep⟩ := fs40ydep hi fs40yo5 rfl
  obtain ⟨hlt, hno⟩ := cha_no hn1
  have l4 : Lb listed 4 = true := hdep { on := 4, ground := Ground.data } (by unfold fs40yo5; simp) rfl
  obtain rfl := h.p4 l4
  have HC : Hid _ := hcon w  h.bel 
  have HH : Hid _ := h
  clear h hdep hn1 hcon
  unfold fs40yfr fs40yo5
  go_wp2_with fail
  refine Calls.mono HC.out ?_
  rintro e w' ⟨v, rfl, ho, hb⟩
  go_wp2_with fail
  have h := HH.out
  refine ⟨_, _, _, _, _, _, _, _, _, _, _, _, rfl, {
    size := by simpa using h.size
    bel := h.bel.trans (hb.mono h.bel.size)
    p0 := fun hl => h.p0 (by rwa [Lb_ne (by omega)] at hl)
    p1 := fun hl => h.p1 (by rwa [Lb_ne (by omega)] at hl)
    p2 := fun hl => h.p2 (by rwa [Lb_ne (by omega)] at hl)
    p3 := fun hl => (h.p3 (by rwa [Lb_ne (by omega)] at hl)).later hb
    p4 := fun hl => h.p4 (by rwa [Lb_ne (by omega)] at hl)
    p5 := fun _ => ho.mono h.bel.size
    p6 := fun hl => (h.p6 (by rwa [Lb_ne (by omega)] at hl)).later hb
    p7 := fun hl => ⟨by rw [Lb_ne (by omega)]; exact (h.p7 (by rwa [Lb_ne (by omega)] at hl)).1, (h.p7 (by rwa [Lb_ne (by omega)] at hl)).2⟩
    p8 := fun hl => ⟨by rw [Lb_ne (by omega)]; exact (h.p8 (by rwa [Lb_ne (by omega)] at hl)).1, (h.p8 (by rwa [Lb_ne (by omega)] at hl)).2⟩
    p9 := fun hl => h.p9 (by rwa [Lb_ne (by omega)] at hl)
    p10 := fun hl => ⟨by rw [Lb_ne (by omega)]; exact (h.p10 (by rwa [Lb_ne (by omega)] at hl)).1, (h.p10 (by rwa [Lb_ne (by omega)] at hl)).2⟩
    p11 := fun hl => h.p11 (by rwa [Lb_ne (by omega)] at hl) }⟩
set_option maxRecDepth 10000 in
set_option maxHeartbeats 2000000 in
theorem fs40ys6 {K2 S2 bx E S : List Int} {b15 b11 ga k ca : Nat} {ev q0 q2 q3 q4 q5 q6 q8 q9 q10 q12 q13 q14 q16 q17 q18 q19 q21 q22 q25 q26 q27 q28 q29 q30 q31 q32 q33 q34 q35 q36 q37 q38 q39 q40 q41 q42 q43 q44 q45 q46 q47 q48 q49 q50 q51 q52 q53 q54 q55 q56 q57 q58 q59 q60 q61 q62 q63 q64 q65 q66 q67 q68 q69 q70 q71 q72 q73 q74 q75 q76 q77 q78 q79 q80 q81 q82 q83 q84 q85 q86 q87 q88 q89 q90 q91 q92 q93 q94 q95 q96 q97 q98 q99 q100 q101 q102 q103 q104 q105 q106 q107 q108 q109 q110 q111 q112 q113 q114 q115 q116 q117 q118 q119 q120 q121 q122 q123 q124 q125 q126 q127 q128 q129 q130 q131 q132 q133 q134 q135 q136 q137 q138 q139 q140 q141 q142 q143 q144 q145 q146 q147 q148 q149 q150 q151 q152 q153 q154 q155 q156 q157 q158 q159 q160 q161 q162 q163 q164 q165 q166 q167 q168 q169 q170 q171 q182 q183 q184 q185 q186 q187 q188 q189 q190 q191 : Value} {W : World} {listed : Array Bool} {w : World} {y23 y24 y172 y173 y174 y175 y176 y177 y178 y179 y180 y181 : Value} {Q : Exit → Act → World → Prop} (h : fs40yIn K2 S2 bx E S b15 b11 ga k ca ev q0 q2 q3 q4 q5 q6 q8 q9 q10 q12 q13 q14 q16 q17 q18 q19 q21 q22 q25 q26 q27 q28 q29 q30 q31 q32 q33 q34 q35 q36 q37 q38 q39 q40 q41 q42 q43 q44 q45 q46 q47 q48 q49 q50 q51 q52 q53 q54 q55 q56 q57 q58 q59 q60 q61 q62 q63 q64 q65 q66 q67 q68 q69 q70 q71 q72 q73 q74 q75 q76 q77 q78 q79 q80 q81 q82 q83 q84 q85 q86 q87 q88 q89 q90 q91 q92 q93 q94 q95 q96 q97 q98 q99 q100 q101 q102 q103 q104 q105 q106 q107 q108 q109 q110 q111 q112 q113 q114 q115 q116 q117 q118 q119 q120 q121 q122 q123 q124 q125 q126 q127 q128 q129 q130 q131 q132 q133 q134 q135 q136 q137 q138 q139 q140 q141 q142 q143 q144 q145 q146 q147 q148 q149 q150 q151 q152 q153 q154 q155 q156 q157 q158 q159 q160 q161 q162 q163 q164 q165 q166 q167 q168 q169 q170 q171 q182 q183 q184 q185 q186 q187 q188 q189 q190 q191 W listed w y23 y24 y172 y173 y174 y175 y176 y177 y178 y179 y180 y181) (hi : 6 ∈ Region.ready .any fs40yops listed) (hcon : ∀ w y176 y178, Below W.heap.size W w → OwnN .u8 5 W.heap.size w y176 bx → OwnN .u8 5 W.heap.size w y178 E → Calls Tryd.prog 16 #[.agg (Iv .u8 K2), .agg (Iv .u8 S2), y176, y178] w fun e w' => ∃ v, e = .returned v ∧ OwnT .u8 5 w.heap.size w' v S ∧ Below w.heap.size w w') :
    wpList Tryd.prog fs40yops (atEnd (fs40yInv K2 S2 bx E S b15 b11 ga k ca ev q0 q2 q3 q4 q5 q6 q8 q9 q10 q12 q13 q14 q16 q17 q18 q19 q21 q22 q25 q26 q27 q28 q29 q30 q31 q32 q33 q34 q35 q36 q37 q38 q39 q40 q41 q42 q43 q44 q45 q46 q47 q48 q49 q50 q51 q52 q53 q54 q55 q56 q57 q58 q59 q60 q61 q62 q63 q64 q65 q66 q67 q68 q69 q70 q71 q72 q73 q74 q75 q76 q77 q78 q79 q80 q81 q82 q83 q84 q85 q86 q87 q88 q89 q90 q91 q92 q93 q94 q95 q96 q97 q98 q99 q100 q101 q102 q103 q104 q105 q106 q107 q108 q109 q110 q111 q112 q113 q114 q115 q116 q117 q118 q119 q120 q121 q122 q123 q124 q125 q126 q127 q128 q129 q130 q131 q132 q133 q134 q135 q136 q137 q138 q139 q140 q141 q142 q143 q144 q145 q146 q147 q148 q149 q150 q151 q152 q153 q154 q155 q156 q157 q158 q159 q160 q161 q162 q163 q164 q165 q166 q167 q168 q169 q170 q171 q182 q183 q184 q185 q186 q187 q188 q189 q190 q191 W (listed.setIfInBounds 6 true)) Q) [fs40yo6] (fs40yfr K2 S2 bx E S b15 b11 ga k ca ev q0 q2 q3 q4 q5 q6 q8 q9 q10 q12 q13 q14 q16 q17 q18 q19 q21 q22 q25 q26 q27 q28 q29 q30 q31 q32 q33 q34 q35 q36 q37 q38 q39 q40 q41 q42 q43 q44 q45 q46 q47 q48 q49 q50 q51 q52 q53 q54 q55 q56 q57 q58 q59 q60 q61 q62 q63 q64 q65 q66 q67 q68 q69 q70 q71 q72 q73 q74 q75 q76 q77 q78 q79 q80 q81 q82 q83 q84 q85 q86 q87 q88 q89 q90 q91 q92 q93 q94 q95 q96 q97 q98 q99 q100 q101 q102 q103 q104 q105 q106 q107 q108 q109 q110 q111 q112 q113 q114 q115 q116 q117 q118 q119 q120 q121 q122 q123 q124 q125 q126 q127 q128 q129 q130 q131 q132 q133 q134 q135 q136 q137 q138 q139 q140 q141 q142 q143 q144 q145 q146 q147 q148 q149 q150 q151 q152 q153 q154 q155 q156 q157 q158 q159 q160 q161 q162 q163 q164 q165 q166 q167 q168 q169 q170 q171 q182 q183 q184 q185 q186 q187 q188 q189 q190 q191 y23 y24 y172 y173 y174 y175 y176 y177 y178 y179 y180 y181) w := by
  obtain ⟨hn1, hdep⟩ := fs40ydep hi fs40yo6 rfl
  obtain ⟨hlt, hno⟩ := cha_no hn1
  have l0 : Lb listed 0 = true := hdep { on := 0, ground := Ground.data } (by unfold fs40yo6; simp) rfl
  obtain rfl := h.p0 l0
  have l1 : Lb listed 1 = true := hdep { on := 1, ground := Ground.data } (by unfold fs40yo6; simp) rfl
  obtain rfl := h.p1 l1
  have l3 : Lb listed 3 = true := hdep { on := 3, ground := Ground.data } (by unfold fs40yo6; simp) rfl
  have o3 := h.p3 l3
  have l5 : Lb listed 5 = true := hdep { on := 5, ground := Ground.data } (by unfold fs40yo6; simp) rfl
  have o5 := h.p5 l5
  have HC : Hid _ := hcon w _ _ h.bel o3 o5
  have HH : Hid _ := h
  clear h hdep hn1 hcon
  unfold fs40yfr fs40yo6
  go_wp2_with fail
  refine Calls.mono HC.out ?_
  rintro e w' ⟨v, rfl, ho, hb⟩
  go_wp2_with fail
  have h := HH.out
  refine ⟨_, _, _, _, _, _, _, _, _, _, _, _, rfl, {
    size := by simpa using h.size
    bel := h.bel.trans (hb.mono h.bel.size)
    p0 := fun hl => h.p0 (by rwa [Lb_ne (by omega)] at hl)
    p1 := fun hl => h.p1 (by rwa [Lb_ne (by omega)] at hl)
    p2 := fun hl => h.p2 (by rwa [Lb_ne (by omega)] at hl)
    p3 := fun hl => (h.p3 (by rwa [Lb_ne (by omega)] at hl)).later hb
    p4 := fun hl => h.p4 (by rwa [Lb_ne (by omega)] at hl)
    p5 := fun hl => (h.p5 (by rwa [Lb_ne (by omega)] at hl)).later hb
    p6 := fun _ => ho.mono h.bel.size
    p7 := fun hl => absurd (h.p7 (by rwa [Lb_ne (by omega)] at hl)).1 (by rw [hno]; simp)
    p8 := fun hl => absurd (h.p8 (by rwa [Lb_ne (by omega)] at hl)).1 (by rw [hno]; simp)
    p9 := fun hl => h.p9 (by rwa [Lb_ne (by omega)] at hl)
    p10 := fun hl => ⟨by rw [Lb_ne (by omega)]; exact (h.p10 (by rwa [Lb_ne (by omega)] at hl)).1, (h.p10 (by rwa [Lb_ne (by omega)] at hl)).2⟩
    p11 := fun hl => h.p11 (by rwa [Lb_ne (by omega)] at hl) }⟩
set_option maxRecDepth 10000 in
set_option maxHeartbeats 2000000 in
theorem fs40ys7 {K2 S2 bx E S : List Int} {b15 b11 ga k ca : Nat} {ev q0 q2 q3 q4 q5 q6 q8 q9 q10 q12 q13 q14 q16 q17 q18 q19 q21 q22 q25 q26 q27 q28 q29 q30 q31 q32 q33 q34 q35 q36 q37 q38 q39 q40 q41 q42 q43 q44 q45 q46 q47 q48 q49 q50 q51 q52 q53 q54 q55 q56 q57 q58 q59 q60 q61 q62 q63 q64 q65 q66 q67 q68 q69 q70 q71 q72 q73 q74 q75 q76 q77 q78 q79 q80 q81 q82 q83 q84 q85 q86 q87 q88 q89 q90 q91 q92 q93 q94 q95 q96 q97 q98 q99 q100 q101 q102 q103 q104 q105 q106 q107 q108 q109 q110 q111 q112 q113 q114 q115 q116 q117 q118 q119 q120 q121 q122 q123 q124 q125 q126 q127 q128 q129 q130 q131 q132 q133 q134 q135 q136 q137 q138 q139 q140 q141 q142 q143 q144 q145 q146 q147 q148 q149 q150 q151 q152 q153 q154 q155 q156 q157 q158 q159 q160 q161 q162 q163 q164 q165 q166 q167 q168 q169 q170 q171 q182 q183 q184 q185 q186 q187 q188 q189 q190 q191 : Value} {W : World} {listed : Array Bool} {w : World} {y23 y24 y172 y173 y174 y175 y176 y177 y178 y179 y180 y181 : Value} {Q : Exit → Act → World → Prop} (h : fs40yIn K2 S2 bx E S b15 b11 ga k ca ev q0 q2 q3 q4 q5 q6 q8 q9 q10 q12 q13 q14 q16 q17 q18 q19 q21 q22 q25 q26 q27 q28 q29 q30 q31 q32 q33 q34 q35 q36 q37 q38 q39 q40 q41 q42 q43 q44 q45 q46 q47 q48 q49 q50 q51 q52 q53 q54 q55 q56 q57 q58 q59 q60 q61 q62 q63 q64 q65 q66 q67 q68 q69 q70 q71 q72 q73 q74 q75 q76 q77 q78 q79 q80 q81 q82 q83 q84 q85 q86 q87 q88 q89 q90 q91 q92 q93 q94 q95 q96 q97 q98 q99 q100 q101 q102 q103 q104 q105 q106 q107 q108 q109 q110 q111 q112 q113 q114 q115 q116 q117 q118 q119 q120 q121 q122 q123 q124 q125 q126 q127 q128 q129 q130 q131 q132 q133 q134 q135 q136 q137 q138 q139 q140 q141 q142 q143 q144 q145 q146 q147 q148 q149 q150 q151 q152 q153 q154 q155 q156 q157 q158 q159 q160 q161 q162 q163 q164 q165 q166 q167 q168 q169 q170 q171 q182 q183 q184 q185 q186 q187 q188 q189 q190 q191 W listed w y23 y24 y172 y173 y174 y175 y176 y177 y178 y179 y180 y181) (hi : 7 ∈ Region.ready .any fs40yops listed) :
    wpList Tryd.prog fs40yops (atEnd (fs40yInv K2 S2 bx E S b15 b11 ga k ca ev q0 q2 q3 q4 q5 q6 q8 q9 q10 q12 q13 q14 q16 q17 q18 q19 q21 q22 q25 q26 q27 q28 q29 q30 q31 q32 q33 q34 q35 q36 q37 q38 q39 q40 q41 q42 q43 q44 q45 q46 q47 q48 q49 q50 q51 q52 q53 q54 q55 q56 q57 q58 q59 q60 q61 q62 q63 q64 q65 q66 q67 q68 q69 q70 q71 q72 q73 q74 q75 q76 q77 q78 q79 q80 q81 q82 q83 q84 q85 q86 q87 q88 q89 q90 q91 q92 q93 q94 q95 q96 q97 q98 q99 q100 q101 q102 q103 q104 q105 q106 q107 q108 q109 q110 q111 q112 q113 q114 q115 q116 q117 q118 q119 q120 q121 q122 q123 q124 q125 q126 q127 q128 q129 q130 q131 q132 q133 q134 q135 q136 q137 q138 q139 q140 q141 q142 q143 q144 q145 q146 q147 q148 q149 q150 q151 q152 q153 q154 q155 q156 q157 q158 q159 q160 q161 q162 q163 q164 q165 q166 q167 q168 q169 q170 q171 q182 q183 q184 q185 q186 q187 q188 q189 q190 q191 W (listed.setIfInBounds 7 true)) Q) [fs40yo7] (fs40yfr K2 S2 bx E S b15 b11 ga k ca ev q0 q2 q3 q4 q5 q6 q8 q9 q10 q12 q13 q14 q16 q17 q18 q19 q21 q22 q25 q26 q27 q28 q29 q30 q31 q32 q33 q34 q35 q36 q37 q38 q39 q40 q41 q42 q43 q44 q45 q46 q47 q48 q49 q50 q51 q52 q53 q54 q55 q56 q57 q58 q59 q60 q61 q62 q63 q64 q65 q66 q67 q68 q69 q70 q71 q72 q73 q74 q75 q76 q77 q78 q79 q80 q81 q82 q83 q84 q85 q86 q87 q88 q89 q90 q91 q92 q93 q94 q95 q96 q97 q98 q99 q100 q101 q102 q103 q104 q105 q106 q107 q108 q109 q110 q111 q112 q113 q114 q115 q116 q117 q118 q119 q120 q121 q122 q123 q124 q125 q126 q127 q128 q129 q130 q131 q132 q133 q134 q135 q136 q137 q138 q139 q140 q141 q142 q143 q144 q145 q146 q147 q148 q149 q150 q151 q152 q153 q154 q155 q156 q157 q158 q159 q160 q161 q162 q163 q164 q165 q166 q167 q168 q169 q170 q171 q182 q183 q184 q185 q186 q187 q188 q189 q190 q191 y23 y24 y172 y173 y174 y175 y176 y177 y178 y179 y180 y181) w := by
  obtain ⟨hn1, hdep⟩ := fs40ydep hi fs40yo7 rfl
  obtain ⟨hlt, hno⟩ := cha_no hn1
  have l6 : Lb listed 6 = true := hdep { on := 6, ground := Ground.data } (by unfold fs40yo7; simp) rfl
  have o6 := h.p6 l6
  have HH : Hid _ := h
  clear h hdep hn1
  unfold fs40yfr fs40yo7
  go_wp2_with fail
  have h := HH.out
  have hb := Below.refl w.heap.size w
  refine ⟨_, _, _, _, _, _, _, _, _, _, _, _, rfl, {
    size := by simpa using h.size
    bel := h.bel.trans (hb.mono h.bel.size)
    p0 := fun hl => h.p0 (by rwa [Lb_ne (by omega)] at hl)
    p1 := fun hl => h.p1 (by rwa [Lb_ne (by omega)] at hl)
    p2 := fun hl => h.p2 (by rwa [Lb_ne (by omega)] at hl)
    p3 := fun hl => (h.p3 (by rwa [Lb_ne (by omega)] at hl)).later hb
    p4 := fun hl => h.p4 (by rwa [Lb_ne (by omega)] at hl)
    p5 := fun hl => (h.p5 (by rwa [Lb_ne (by omega)] at hl)).later hb
    p6 := fun hl => (h.p6 (by rwa [Lb_ne (by omega)] at hl)).later hb
    p7 := fun _ => ⟨by rw [Lb_ne (by omega)]; exact l6, rfl⟩
    p8 := fun hl => ⟨by rw [Lb_ne (by omega)]; exact (h.p8 (by rwa [Lb_ne (by omega)] at hl)).1, (h.p8 (by rwa [Lb_ne (by omega)] at hl)).2⟩
    p9 := fun hl => h.p9 (by rwa [Lb_ne (by omega)] at hl)
    p10 := fun hl => ⟨by rw [Lb_ne (by omega)]; exact (h.p10 (by rwa [Lb_ne (by omega)] at hl)).1, (h.p10 (by rwa [Lb_ne (by omega)] at hl)).2⟩
    p11 := fun hl => h.p11 (by rwa [Lb_ne (by omega)] at hl) }⟩
set_option maxRecDepth 10000 in
set_option maxHeartbeats 2000000 in
theorem fs40ys8 {K2 S2 bx E S : List Int} {b15 b11 ga k ca : Nat} {ev q0 q2 q3 q4 q5 q6 q8 q9 q10 q12 q13 q14 q16 q17 q18 q19 q21 q22 q25 q26 q27 q28 q29 q30 q31 q32 q33 q34 q35 q36 q37 q38 q39 q40 q41 q42 q43 q44 q45 q46 q47 q48 q49 q50 q51 q52 q53 q54 q55 q56 q57 q58 q59 q60 q61 q62 q63 q64 q65 q66 q67 q68 q69 q70 q71 q72 q73 q74 q75 q76 q77 q78 q79 q80 q81 q82 q83 q84 q85 q86 q87 q88 q89 q90 q91 q92 q93 q94 q95 q96 q97 q98 q99 q100 q101 q102 q103 q104 q105 q106 q107 q108 q109 q110 q111 q112 q113 q114 q115 q116 q117 q118 q119 q120 q121 q122 q123 q124 q125 q126 q127 q128 q129 q130 q131 q132 q133 q134 q135 q136 q137 q138 q139 q140 q141 q142 q143 q144 q145 q146 q147 q148 q149 q150 q151 q152 q153 q154 q155 q156 q157 q158 q159 q160 q161 q162 q163 q164 q165 q166 q167 q168 q169 q170 q171 q182 q183 q184 q185 q186 q187 q188 q189 q190 q191 : Value} {W : World} {listed : Array Bool} {w : World} {y23 y24 y172 y173 y174 y175 y176 y177 y178 y179 y180 y181 : Value} {Q : Exit → Act → World → Prop} (h : fs40yIn K2 S2 bx E S b15 b11 ga k ca ev q0 q2 q3 q4 q5 q6 q8 q9 q10 q12 q13 q14 q16 q17 q18 q19 q21 q22 q25 q26 q27 q28 q29 q30 q31 q32 q33 q34 q35 q36 q37 q38 q39 q40 q41 q42 q43 q44 q45 q46 q47 q48 q49 q50 q51 q52 q53 q54 q55 q56 q57 q58 q59 q60 q61 q62 q63 q64 q65 q66 q67 q68 q69 q70 q71 q72 q73 q74 q75 q76 q77 q78 q79 q80 q81 q82 q83 q84 q85 q86 q87 q88 q89 q90 q91 q92 q93 q94 q95 q96 q97 q98 q99 q100 q101 q102 q103 q104 q105 q106 q107 q108 q109 q110 q111 q112 q113 q114 q115 q116 q117 q118 q119 q120 q121 q122 q123 q124 q125 q126 q127 q128 q129 q130 q131 q132 q133 q134 q135 q136 q137 q138 q139 q140 q141 q142 q143 q144 q145 q146 q147 q148 q149 q150 q151 q152 q153 q154 q155 q156 q157 q158 q159 q160 q161 q162 q163 q164 q165 q166 q167 q168 q169 q170 q171 q182 q183 q184 q185 q186 q187 q188 q189 q190 q191 W listed w y23 y24 y172 y173 y174 y175 y176 y177 y178 y179 y180 y181) (hi : 8 ∈ Region.ready .any fs40yops listed) :
    wpList Tryd.prog fs40yops (atEnd (fs40yInv K2 S2 bx E S b15 b11 ga k ca ev q0 q2 q3 q4 q5 q6 q8 q9 q10 q12 q13 q14 q16 q17 q18 q19 q21 q22 q25 q26 q27 q28 q29 q30 q31 q32 q33 q34 q35 q36 q37 q38 q39 q40 q41 q42 q43 q44 q45 q46 q47 q48 q49 q50 q51 q52 q53 q54 q55 q56 q57 q58 q59 q60 q61 q62 q63 q64 q65 q66 q67 q68 q69 q70 q71 q72 q73 q74 q75 q76 q77 q78 q79 q80 q81 q82 q83 q84 q85 q86 q87 q88 q89 q90 q91 q92 q93 q94 q95 q96 q97 q98 q99 q100 q101 q102 q103 q104 q105 q106 q107 q108 q109 q110 q111 q112 q113 q114 q115 q116 q117 q118 q119 q120 q121 q122 q123 q124 q125 q126 q127 q128 q129 q130 q131 q132 q133 q134 q135 q136 q137 q138 q139 q140 q141 q142 q143 q144 q145 q146 q147 q148 q149 q150 q151 q152 q153 q154 q155 q156 q157 q158 q159 q160 q161 q162 q163 q164 q165 q166 q167 q168 q169 q170 q171 q182 q183 q184 q185 q186 q187 q188 q189 q190 q191 W (listed.setIfInBounds 8 true)) Q) [fs40yo8] (fs40yfr K2 S2 bx E S b15 b11 ga k ca ev q0 q2 q3 q4 q5 q6 q8 q9 q10 q12 q13 q14 q16 q17 q18 q19 q21 q22 q25 q26 q27 q28 q29 q30 q31 q32 q33 q34 q35 q36 q37 q38 q39 q40 q41 q42 q43 q44 q45 q46 q47 q48 q49 q50 q51 q52 q53 q54 q55 q56 q57 q58 q59 q60 q61 q62 q63 q64 q65 q66 q67 q68 q69 q70 q71 q72 q73 q74 q75 q76 q77 q78 q79 q80 q81 q82 q83 q84 q85 q86 q87 q88 q89 q90 q91 q92 q93 q94 q95 q96 q97 q98 q99 q100 q101 q102 q103 q104 q105 q106 q107 q108 q109 q110 q111 q112 q113 q114 q115 q116 q117 q118 q119 q120 q121 q122 q123 q124 q125 q126 q127 q128 q129 q130 q131 q132 q133 q134 q135 q136 q137 q138 q139 q140 q141 q142 q143 q144 q145 q146 q147 q148 q149 q150 q151 q152 q153 q154 q155 q156 q157 q158 q159 q160 q161 q162 q163 q164 q165 q166 q167 q168 q169 q170 q171 q182 q183 q184 q185 q186 q187 q188 q189 q190 q191 y23 y24 y172 y173 y174 y175 y176 y177 y178 y179 y180 y181) w := by
  obtain ⟨hn1, hdep⟩ := fs40ydep hi fs40yo8 rfl
  obtain ⟨hlt, hno⟩ := cha_no hn1
  have l7 : Lb listed 7 = true := hdep { on := 7, ground := Ground.data } (by unfold fs40yo8; simp) rfl
  obtain ⟨l6, e7⟩ := h.p7 l7
  obtain ⟨tv, etv, htv⟩ := h.p6 l6
  subst etv
  subst e7
  have HH : Hid _ := h
  clear h hdep hn1
  unfold fs40yfr fs40yo8
  go_wp2_with fail
  have h := HH.out
  have hb := Below.refl w.heap.size w
  refine ⟨_, _, _, _, _, _, _, _, _, _, _, _, rfl, {
    size := by simpa using h.size
    bel := h.bel.trans (hb.mono h.bel.size)
    p0 := fun hl => h.p0 (by rwa [Lb_ne (by omega)] at hl)
    p1 := fun hl => h.p1 (by rwa [Lb_ne (by omega)] at hl)
    p2 := fun hl => h.p2 (by rwa [Lb_ne (by omega)] at hl)
    p3 := fun hl => (h.p3 (by rwa [Lb_ne (by omega)] at hl)).later hb
    p4 := fun hl => h.p4 (by rwa [Lb_ne (by omega)] at hl)
    p5 := fun hl => (h.p5 (by rwa [Lb_ne (by omega)] at hl)).later hb
    p6 := fun hl => (h.p6 (by rwa [Lb_ne (by omega)] at hl)).later hb
    p7 := fun hl => ⟨by rw [Lb_ne (by omega)]; exact (h.p7 (by rwa [Lb_ne (by omega)] at hl)).1, (h.p7 (by rwa [Lb_ne (by omega)] at hl)).2⟩
    p8 := fun _ => ⟨by rw [Lb_ne (by omega)]; exact l6, rfl⟩
    p9 := fun hl => h.p9 (by rwa [Lb_ne (by omega)] at hl)
    p10 := fun hl => absurd (h.p10 (by rwa [Lb_ne (by omega)] at hl)).1 (by rw [hno]; simp)
    p11 := fun hl => h.p11 (by rwa [Lb_ne (by omega)] at hl) }⟩
set_option maxRecDepth 10000 in
set_option maxHeartbeats 2000000 in
theorem fs40ys9 {K2 S2 bx E S : List Int} {b15 b11 ga k ca : Nat} {ev q0 q2 q3 q4 q5 q6 q8 q9 q10 q12 q13 q14 q16 q17 q18 q19 q21 q22 q25 q26 q27 q28 q29 q30 q31 q32 q33 q34 q35 q36 q37 q38 q39 q40 q41 q42 q43 q44 q45 q46 q47 q48 q49 q50 q51 q52 q53 q54 q55 q56 q57 q58 q59 q60 q61 q62 q63 q64 q65 q66 q67 q68 q69 q70 q71 q72 q73 q74 q75 q76 q77 q78 q79 q80 q81 q82 q83 q84 q85 q86 q87 q88 q89 q90 q91 q92 q93 q94 q95 q96 q97 q98 q99 q100 q101 q102 q103 q104 q105 q106 q107 q108 q109 q110 q111 q112 q113 q114 q115 q116 q117 q118 q119 q120 q121 q122 q123 q124 q125 q126 q127 q128 q129 q130 q131 q132 q133 q134 q135 q136 q137 q138 q139 q140 q141 q142 q143 q144 q145 q146 q147 q148 q149 q150 q151 q152 q153 q154 q155 q156 q157 q158 q159 q160 q161 q162 q163 q164 q165 q166 q167 q168 q169 q170 q171 q182 q183 q184 q185 q186 q187 q188 q189 q190 q191 : Value} {W : World} {listed : Array Bool} {w : World} {y23 y24 y172 y173 y174 y175 y176 y177 y178 y179 y180 y181 : Value} {Q : Exit → Act → World → Prop} (h : fs40yIn K2 S2 bx E S b15 b11 ga k ca ev q0 q2 q3 q4 q5 q6 q8 q9 q10 q12 q13 q14 q16 q17 q18 q19 q21 q22 q25 q26 q27 q28 q29 q30 q31 q32 q33 q34 q35 q36 q37 q38 q39 q40 q41 q42 q43 q44 q45 q46 q47 q48 q49 q50 q51 q52 q53 q54 q55 q56 q57 q58 q59 q60 q61 q62 q63 q64 q65 q66 q67 q68 q69 q70 q71 q72 q73 q74 q75 q76 q77 q78 q79 q80 q81 q82 q83 q84 q85 q86 q87 q88 q89 q90 q91 q92 q93 q94 q95 q96 q97 q98 q99 q100 q101 q102 q103 q104 q105 q106 q107 q108 q109 q110 q111 q112 q113 q114 q115 q116 q117 q118 q119 q120 q121 q122 q123 q124 q125 q126 q127 q128 q129 q130 q131 q132 q133 q134 q135 q136 q137 q138 q139 q140 q141 q142 q143 q144 q145 q146 q147 q148 q149 q150 q151 q152 q153 q154 q155 q156 q157 q158 q159 q160 q161 q162 q163 q164 q165 q166 q167 q168 q169 q170 q171 q182 q183 q184 q185 q186 q187 q188 q189 q190 q191 W listed w y23 y24 y172 y173 y174 y175 y176 y177 y178 y179 y180 y181) (hi : 9 ∈ Region.ready .any fs40yops listed) :
    wpList Tryd.prog fs40yops (atEnd (fs40yInv K2 S2 bx E S b15 b11 ga k ca ev q0 q2 q3 q4 q5 q6 q8 q9 q10 q12 q13 q14 q16 q17 q18 q19 q21 q22 q25 q26 q27 q28 q29 q30 q31 q32 q33 q34 q35 q36 q37 q38 q39 q40 q41 q42 q43 q44 q45 q46 q47 q48 q49 q50 q51 q52 q53 q54 q55 q56 q57 q58 q59 q60 q61 q62 q63 q64 q65 q66 q67 q68 q69 q70 q71 q72 q73 q74 q75 q76 q77 q78 q79 q80 q81 q82 q83 q84 q85 q86 q87 q88 q89 q90 q91 q92 q93 q94 q95 q96 q97 q98 q99 q100 q101 q102 q103 q104 q105 q106 q107 q108 q109 q110 q111 q112 q113 q114 q115 q116 q117 q118 q119 q120 q121 q122 q123 q124 q125 q126 q127 q128 q129 q130 q131 q132 q133 q134 q135 q136 q137 q138 q139 q140 q141 q142 q143 q144 q145 q146 q147 q148 q149 q150 q151 q152 q153 q154 q155 q156 q157 q158 q159 q160 q161 q162 q163 q164 q165 q166 q167 q168 q169 q170 q171 q182 q183 q184 q185 q186 q187 q188 q189 q190 q191 W (listed.setIfInBounds 9 true)) Q) [fs40yo9] (fs40yfr K2 S2 bx E S b15 b11 ga k ca ev q0 q2 q3 q4 q5 q6 q8 q9 q10 q12 q13 q14 q16 q17 q18 q19 q21 q22 q25 q26 q27 q28 q29 q30 q31 q32 q33 q34 q35 q36 q37 q38 q39 q40 q41 q42 q43 q44 q45 q46 q47 q48 q49 q50 q51 q52 q53 q54 q55 q56 q57 q58 q59 q60 q61 q62 q63 q64 q65 q66 q67 q68 q69 q70 q71 q72 q73 q74 q75 q76 q77 q78 q79 q80 q81 q82 q83 q84 q85 q86 q87 q88 q89 q90 q91 q92 q93 q94 q95 q96 q97 q98 q99 q100 q101 q102 q103 q104 q105 q106 q107 q108 q109 q110 q111 q112 q113 q114 q115 q116 q117 q118 q119 q120 q121 q122 q123 q124 q125 q126 q127 q128 q129 q130 q131 q132 q133 q134 q135 q136 q137 q138 q139 q140 q141 q142 q143 q144 q145 q146 q147 q148 q149 q150 q151 q152 q153 q154 q155 q156 q157 q158 q159 q160 q161 q162 q163 q164 q165 q166 q167 q168 q169 q170 q171 q182 q183 q184 q185 q186 q187 q188 q189 q190 q191 y23 y24 y172 y173 y174 y175 y176 y177 y178 y179 y180 y181) w := by
  obtain ⟨hn1, hdep⟩ := fs40ydep hi fs40yo9 rfl
  obtain ⟨hlt, hno⟩ := cha_no hn1
  have l7 : Lb listed 7 = true := hdep { on := 7, ground := Ground.data } (by unfold fs40yo9; simp) rfl
  obtain ⟨l6, e7⟩ := h.p7 l7
  obtain ⟨tv, etv, htv⟩ := h.p6 l6
  subst etv
  subst e7
  have HH : Hid _ := h
  clear h hdep hn1
  unfold fs40yfr fs40yo9
  go_wp2_with fail
  have h := HH.out
  have hb := Below.refl w.heap.size w
  refine ⟨_, _, _, _, _, _, _, _, _, _, _, _, rfl, {
    size := by simpa using h.size
    bel := h.bel.trans (hb.mono h.bel.size)
    p0 := fun hl => h.p0 (by rwa [Lb_ne (by omega)] at hl)
    p1 := fun hl => h.p1 (by rwa [Lb_ne (by omega)] at hl)
    p2 := fun hl => h.p2 (by rwa [Lb_ne (by omega)] at hl)
    p3 := fun hl => (h.p3 (by rwa [Lb_ne (by omega)] at hl)).later hb
    p4 := fun hl => h.p4 (by rwa [Lb_ne (by omega)] at hl)
    p5 := fun hl => (h.p5 (by rwa [Lb_ne (by omega)] at hl)).later hb
    p6 := fun hl => (h.p6 (by rwa [Lb_ne (by omega)] at hl)).later hb
    p7 := fun hl => ⟨by rw [Lb_ne (by omega)]; exact (h.p7 (by rwa [Lb_ne (by omega)] at hl)).1, (h.p7 (by rwa [Lb_ne (by omega)] at hl)).2⟩
    p8 := fun hl => ⟨by rw [Lb_ne (by omega)]; exact (h.p8 (by rwa [Lb_ne (by omega)] at hl)).1, (h.p8 (by rwa [Lb_ne (by omega)] at hl)).2⟩
    p9 := fun _ => rfl
    p10 := fun hl => ⟨by rw [Lb_ne (by omega)]; exact (h.p10 (by rwa [Lb_ne (by omega)] at hl)).1, (h.p10 (by rwa [Lb_ne (by omega)] at hl)).2⟩
    p11 := fun hl => h.p11 (by rwa [Lb_ne (by omega)] at hl) }⟩
set_option maxRecDepth 10000 in
set_option maxHeartbeats 2000000 in
theorem fs40ys10 {K2 S2 bx E S : List Int} {b15 b11 ga k ca : Nat} {ev q0 q2 q3 q4 q5 q6 q8 q9 q10 q12 q13 q14 q16 q17 q18 q19 q21 q22 q25 q26 q27 q28 q29 q30 q31 q32 q33 q34 q35 q36 q37 q38 q39 q40 q41 q42 q43 q44 q45 q46 q47 q48 q49 q50 q51 q52 q53 q54 q55 q56 q57 q58 q59 q60 q61 q62 q63 q64 q65 q66 q67 q68 q69 q70 q71 q72 q73 q74 q75 q76 q77 q78 q79 q80 q81 q82 q83 q84 q85 q86 q87 q88 q89 q90 q91 q92 q93 q94 q95 q96 q97 q98 q99 q100 q101 q102 q103 q104 q105 q106 q107 q108 q109 q110 q111 q112 q113 q114 q115 q116 q117 q118 q119 q120 q121 q122 q123 q124 q125 q126 q127 q128 q129 q130 q131 q132 q133 q134 q135 q136 q137 q138 q139 q140 q141 q142 q143 q144 q145 q146 q147 q148 q149 q150 q151 q152 q153 q154 q155 q156 q157 q158 q159 q160 q161 q162 q163 q164 q165 q166 q167 q168 q169 q170 q171 q182 q183 q184 q185 q186 q187 q188 q189 q190 q191 : Value} {W : World} {listed : Array Bool} {w : World} {y23 y24 y172 y173 y174 y175 y176 y177 y178 y179 y180 y181 : Value} {Q : Exit → Act → World → Prop} (h : fs40yIn K2 S2 bx E S b15 b11 ga k ca ev q0 q2 q3 q4 q5 q6 q8 q9 q10 q12 q13 q14 q16 q17 q18 q19 q21 q22 q25 q26 q27 q28 q29 q30 q31 q32 q33 q34 q35 q36 q37 q38 q39 q40 q41 q42 q43 q44 q45 q46 q47 q48 q49 q50 q51 q52 q53 q54 q55 q56 q57 q58 q59 q60 q61 q62 q63 q64 q65 q66 q67 q68 q69 q70 q71 q72 q73 q74 q75 q76 q77 q78 q79 q80 q81 q82 q83 q84 q85 q86 q87 q88 q89 q90 q91 q92 q93 q94 q95 q96 q97 q98 q99 q100 q101 q102 q103 q104 q105 q106 q107 q108 q109 q110 q111 q112 q113 q114 q115 q116 q117 q118 q119 q120 q121 q122 q123 q124 q125 q126 q127 q128 q129 q130 q131 q132 q133 q134 q135 q136 q137 q138 q139 q140 q141 q142 q143 q144 q145 q146 q147 q148 q149 q150 q151 q152 q153 q154 q155 q156 q157 q158 q159 q160 q161 q162 q163 q164 q165 q166 q167 q168 q169 q170 q171 q182 q183 q184 q185 q186 q187 q188 q189 q190 q191 W listed w y23 y24 y172 y173 y174 y175 y176 y177 y178 y179 y180 y181) (hi : 10 ∈ Region.ready .any fs40yops listed) :
    wpList Tryd.prog fs40yops (atEnd (fs40yInv K2 S2 bx E S b15 b11 ga k ca ev q0 q2 q3 q4 q5 q6 q8 q9 q10 q12 q13 q14 q16 q17 q18 q19 q21 q22 q25 q26 q27 q28 q29 q30 q31 q32 q33 q34 q35 q36 q37 q38 q39 q40 q41 q42 q43 q44 q45 q46 q47 q48 q49 q50 q51 q52 q53 q54 q55 q56 q57 q58 q59 q60 q61 q62 q63 q64 q65 q66 q67 q68 q69 q70 q71 q72 q73 q74 q75 q76 q77 q78 q79 q80 q81 q82 q83 q84 q85 q86 q87 q88 q89 q90 q91 q92 q93 q94 q95 q96 q97 q98 q99 q100 q101 q102 q103 q104 q105 q106 q107 q108 q109 q110 q111 q112 q113 q114 q115 q116 q117 q118 q119 q120 q121 q122 q123 q124 q125 q126 q127 q128 q129 q130 q131 q132 q133 q134 q135 q136 q137 q138 q139 q140 q141 q142 q143 q144 q145 q146 q147 q148 q149 q150 q151 q152 q153 q154 q155 q156 q157 q158 q159 q160 q161 q162 q163 q164 q165 q166 q167 q168 q169 q170 q171 q182 q183 q184 q185 q186 q187 q188 q189 q190 q191 W (listed.setIfInBounds 10 true)) Q) [fs40yo10] (fs40yfr K2 S2 bx E S b15 b11 ga k ca ev q0 q2 q3 q4 q5 q6 q8 q9 q10 q12 q13 q14 q16 q17 q18 q19 q21 q22 q25 q26 q27 q28 q29 q30 q31 q32 q33 q34 q35 q36 q37 q38 q39 q40 q41 q42 q43 q44 q45 q46 q47 q48 q49 q50 q51 q52 q53 q54 q55 q56 q57 q58 q59 q60 q61 q62 q63 q64 q65 q66 q67 q68 q69 q70 q71 q72 q73 q74 q75 q76 q77 q78 q79 q80 q81 q82 q83 q84 q85 q86 q87 q88 q89 q90 q91 q92 q93 q94 q95 q96 q97 q98 q99 q100 q101 q102 q103 q104 q105 q106 q107 q108 q109 q110 q111 q112 q113 q114 q115 q116 q117 q118 q119 q120 q121 q122 q123 q124 q125 q126 q127 q128 q129 q130 q131 q132 q133 q134 q135 q136 q137 q138 q139 q140 q141 q142 q143 q144 q145 q146 q147 q148 q149 q150 q151 q152 q153 q154 q155 q156 q157 q158 q159 q160 q161 q162 q163 q164 q165 q166 q167 q168 q169 q170 q171 q182 q183 q184 q185 q186 q187 q188 q189 q190 q191 y23 y24 y172 y173 y174 y175 y176 y177 y178 y179 y180 y181) w := by
  obtain ⟨hn1, hdep⟩ := fs40ydep hi fs40yo10 rfl
  obtain ⟨hlt, hno⟩ := cha_no hn1
  have l8 : Lb listed 8 = true := hdep { on := 8, ground := Ground.data } (by unfold fs40yo10; simp) rfl
  have HH : Hid _ := h
  clear h hdep hn1
  unfold fs40yfr fs40yo10
  go_wp2_with fail
  have h := HH.out
  have hb := Below.refl w.heap.size w
  refine ⟨_, _, _, _, _, _, _, _, _, _, _, _, rfl, {
    size := by simpa using h.size
    bel := h.bel.trans (hb.mono h.bel.size)
    p0 := fun hl => h.p0 (by rwa [Lb_ne (by omega)] at hl)
    p1 := fun hl => h.p1 (by rwa [Lb_ne (by omega)] at hl)
    p2 := fun hl => h.p2 (by rwa [Lb_ne (by omega)] at hl)
    p3 := fun hl => (h.p3 (by rwa [Lb_ne (by omega)] at hl)).later hb
    p4 := fun hl => h.p4 (by rwa [Lb_ne (by omega)] at hl)
    p5 := fun hl => (h.p5 (by rwa [Lb_ne (by omega)] at hl)).later hb
    p6 := fun hl => (h.p6 (by rwa [Lb_ne (by omega)] at hl)).later hb
    p7 := fun hl => ⟨by rw [Lb_ne (by omega)]; exact (h.p7 (by rwa [Lb_ne (by omega)] at hl)).1, (h.p7 (by rwa [Lb_ne (by omega)] at hl)).2⟩
    p8 := fun hl => ⟨by rw [Lb_ne (by omega)]; exact (h.p8 (by rwa [Lb_ne (by omega)] at hl)).1, (h.p8 (by rwa [Lb_ne (by omega)] at hl)).2⟩
    p9 := fun hl => h.p9 (by rwa [Lb_ne (by omega)] at hl)
    p10 := fun _ => ⟨by rw [Lb_ne (by omega)]; exact l8, rfl⟩
    p11 := fun hl => h.p11 (by rwa [Lb_ne (by omega)] at hl) }⟩
set_option maxRecDepth 10000 in
set_option maxHeartbeats 2000000 in
theorem fs40ys11 {K2 S2 bx E S : List Int} {b15 b11 ga k ca : Nat} {ev q0 q2 q3 q4 q5 q6 q8 q9 q10 q12 q13 q14 q16 q17 q18 q19 q21 q22 q25 q26 q27 q28 q29 q30 q31 q32 q33 q34 q35 q36 q37 q38 q39 q40 q41 q42 q43 q44 q45 q46 q47 q48 q49 q50 q51 q52 q53 q54 q55 q56 q57 q58 q59 q60 q61 q62 q63 q64 q65 q66 q67 q68 q69 q70 q71 q72 q73 q74 q75 q76 q77 q78 q79 q80 q81 q82 q83 q84 q85 q86 q87 q88 q89 q90 q91 q92 q93 q94 q95 q96 q97 q98 q99 q100 q101 q102 q103 q104 q105 q106 q107 q108 q109 q110 q111 q112 q113 q114 q115 q116 q117 q118 q119 q120 q121 q122 q123 q124 q125 q126 q127 q128 q129 q130 q131 q132 q133 q134 q135 q136 q137 q138 q139 q140 q141 q142 q143 q144 q145 q146 q147 q148 q149 q150 q151 q152 q153 q154 q155 q156 q157 q158 q159 q160 q161 q162 q163 q164 q165 q166 q167 q168 q169 q170 q171 q182 q183 q184 q185 q186 q187 q188 q189 q190 q191 : Value} {W : World} {listed : Array Bool} {w : World} {y23 y24 y172 y173 y174 y175 y176 y177 y178 y179 y180 y181 : Value} {Q : Exit → Act → World → Prop} (h : fs40yIn K2 S2 bx E S b15 b11 ga k ca ev q0 q2 q3 q4 q5 q6 q8 q9 q10 q12 q13 q14 q16 q17 q18 q19 q21 q22 q25 q26 q27 q28 q29 q30 q31 q32 q33 q34 q35 q36 q37 q38 q39 q40 q41 q42 q43 q44 q45 q46 q47 q48 q49 q50 q51 q52 q53 q54 q55 q56 q57 q58 q59 q60 q61 q62 q63 q64 q65 q66 q67 q68 q69 q70 q71 q72 q73 q74 q75 q76 q77 q78 q79 q80 q81 q82 q83 q84 q85 q86 q87 q88 q89 q90 q91 q92 q93 q94 q95 q96 q97 q98 q99 q100 q101 q102 q103 q104 q105 q106 q107 q108 q109 q110 q111 q112 q113 q114 q115 q116 q117 q118 q119 q120 q121 q122 q123 q124 q125 q126 q127 q128 q129 q130 q131 q132 q133 q134 q135 q136 q137 q138 q139 q140 q141 q142 q143 q144 q145 q146 q147 q148 q149 q150 q151 q152 q153 q154 q155 q156 q157 q158 q159 q160 q161 q162 q163 q164 q165 q166 q167 q168 q169 q170 q171 q182 q183 q184 q185 q186 q187 q188 q189 q190 q191 W listed w y23 y24 y172 y173 y174 y175 y176 y177 y178 y179 y180 y181) (hi : 11 ∈ Region.ready .any fs40yops listed) :
    wpList Tryd.prog fs40yops (atEnd (fs40yInv K2 S2 bx E S b15 b11 ga k ca ev q0 q2 q3 q4 q5 q6 q8 q9 q10 q12 q13 q14 q16 q17 q18 q19 q21 q22 q25 q26 q27 q28 q29 q30 q31 q32 q33 q34 q35 q36 q37 q38 q39 q40 q41 q42 q43 q44 q45 q46 q47 q48 q49 q50 q51 q52 q53 q54 q55 q56 q57 q58 q59 q60 q61 q62 q63 q64 q65 q66 q67 q68 q69 q70 q71 q72 q73 q74 q75 q76 q77 q78 q79 q80 q81 q82 q83 q84 q85 q86 q87 q88 q89 q90 q91 q92 q93 q94 q95 q96 q97 q98 q99 q100 q101 q102 q103 q104 q105 q106 q107 q108 q109 q110 q111 q112 q113 q114 q115 q116 q117 q118 q119 q120 q121 q122 q123 q124 q125 q126 q127 q128 q129 q130 q131 q132 q133 q134 q135 q136 q137 q138 q139 q140 q141 q142 q143 q144 q145 q146 q147 q148 q149 q150 q151 q152 q153 q154 q155 q156 q157 q158 q159 q160 q161 q162 q163 q164 q165 q166 q167 q168 q169 q170 q171 q182 q183 q184 q185 q186 q187 q188 q189 q190 q191 W (listed.setIfInBounds 11 true)) Q) [fs40yo11] (fs40yfr K2 S2 bx E S b15 b11 ga k ca ev q0 q2 q3 q4 q5 q6 q8 q9 q10 q12 q13 q14 q16 q17 q18 q19 q21 q22 q25 q26 q27 q28 q29 q30 q31 q32 q33 q34 q35 q36 q37 q38 q39 q40 q41 q42 q43 q44 q45 q46 q47 q48 q49 q50 q51 q52 q53 q54 q55 q56 q57 q58 q59 q60 q61 q62 q63 q64 q65 q66 q67 q68 q69 q70 q71 q72 q73 q74 q75 q76 q77 q78 q79 q80 q81 q82 q83 q84 q85 q86 q87 q88 q89 q90 q91 q92 q93 q94 q95 q96 q97 q98 q99 q100 q101 q102 q103 q104 q105 q106 q107 q108 q109 q110 q111 q112 q113 q114 q115 q116 q117 q118 q119 q120 q121 q122 q123 q124 q125 q126 q127 q128 q129 q130 q131 q132 q133 q134 q135 q136 q137 q138 q139 q140 q141 q142 q143 q144 q145 q146 q147 q148 q149 q150 q151 q152 q153 q154 q155 q156 q157 q158 q159 q160 q161 q162 q163 q164 q165 q166 q167 q168 q169 q170 q171 q182 q183 q184 q185 q186 q187 q188 q189 q190 q191 y23 y24 y172 y173 y174 y175 y176 y177 y178 y179 y180 y181) w := by
  obtain ⟨hn1, hdep⟩ := fs40ydep hi fs40yo11 rfl
  obtain ⟨hlt, hno⟩ := cha_no hn1
  have l9 : Lb listed 9 = true := hdep { on := 9, ground := Ground.data } (by unfold fs40yo11; simp) rfl
  obtain rfl := h.p9 l9
  have HH : Hid _ := h
  clear h hdep hn1
  unfold fs40yfr fs40yo11
  go_wp2_with fail
  have h := HH.out
  have hb := Below.refl w.heap.size w
  refine ⟨_, _, _, _, _, _, _, _, _, _, _, _, rfl, {
    size := by simpa using h.size
    bel := h.bel.trans (hb.mono h.bel.size)
    p0 := fun hl => h.p0 (by rwa [Lb_ne (by omega)] at hl)
    p1 := fun hl => h.p1 (by rwa [Lb_ne (by omega)] at hl)
    p2 := fun hl => h.p2 (by rwa [Lb_ne (by omega)] at hl)
    p3 := fun hl => (h.p3 (by rwa [Lb_ne (by omega)] at hl)).later hb
    p4 := fun hl => h.p4 (by rwa [Lb_ne (by omega)] at hl)
    p5 := fun hl => (h.p5 (by rwa [Lb_ne (by omega)] at hl)).later hb
    p6 := fun hl => (h.p6 (by rwa [Lb_ne (by omega)] at hl)).later hb
    p7 := fun hl => ⟨by rw [Lb_ne (by omega)]; exact (h.p7 (by rwa [Lb_ne (by omega)] at hl)).1, (h.p7 (by rwa [Lb_ne (by omega)] at hl)).2⟩
    p8 := fun hl => ⟨by rw [Lb_ne (by omega)]; exact (h.p8 (by rwa [Lb_ne (by omega)] at hl)).1, (h.p8 (by rwa [Lb_ne (by omega)] at hl)).2⟩
    p9 := fun hl => h.p9 (by rwa [Lb_ne (by omega)] at hl)
    p10 := fun hl => ⟨by rw [Lb_ne (by omega)]; exact (h.p10 (by rwa [Lb_ne (by omega)] at hl)).1, (h.p10 (by rwa [Lb_ne (by omega)] at hl)).2⟩
    p11 := fun _ => rfl }⟩
def fs40no0 : Oper := { dst := some 173, op := Op.load 22 (Operand.tmp 15), type := 22, pos := "laws.go:627", after := #[], guard := none }
def fs40no1 : Oper := { dst := some 174, op := Op.load 23 (Operand.tmp 11), type := 23, pos := "laws.go:627", after := #[], guard := none }
def fs40no2 : Oper := { dst := some 175, op := Op.move (Operand.tmp 20), type := 24, pos := "laws.go:627", after := #[], guard := none }
def fs40no3 : Oper := { dst := some 176, op := Op.call { callee := Callee.value (Operand.func 29), args := #[Operand.tmp 175], argTypes := #[24] }, type := 24, pos := "laws.go:627", after := #[{ on := 2, ground := Ground.data }], guard := none }
def fs40no4 : Oper := { dst := some 177, op := Op.move (Operand.tmp 7), type := 24, pos := "laws.go:627", after := #[], guard := none }
def fs40no5 : Oper := { dst := some 178, op := Op.call { callee := Callee.value (Operand.func 29), args := #[Operand.tmp 177], argTypes := #[24] }, type := 24, pos := "laws.go:627", after := #[{ on := 4, ground := Ground.data }, { on := 3, ground := Ground.chain }], guard := none }
def fs40no6 : Oper := { dst := some 179, op := Op.call { callee := Callee.value (Operand.func 16), args := #[Operand.tmp 173, Operand.tmp 174, Operand.tmp 176, Operand.tmp 178], argTypes := #[22, 23, 24, 24] }, type := 32, pos := "laws.go:627", after := #[{ on := 0, ground := Ground.data }, { on := 1, ground := Ground.data }, { on := 3, ground := Ground.data }, { on := 5, ground := Ground.data }, { on := 5, ground := Ground.chain }], guard := none }
def fs40no7 : Oper := { dst := some 172, op := Op.move (Operand.tmp 179), type := 32, pos := "laws.go:627", after := #[{ on := 6, ground := Ground.data }], guard := none }
def fs40no8 : Oper := { dst := some 180, op := Op.extract (Operand.tmp 172) 0, type := 24, pos := "laws.go:627", after := #[{ on := 7, ground := Ground.data }], guard := none }
def fs40no9 : Oper := { dst := some 181, op := Op.extract (Operand.tmp 172) 1, type := 4, pos := "laws.go:627", after := #[{ on := 7, ground := Ground.data }, { on := 10, ground := Ground.gcOnly Departure.lateStores }], guard := none }
def fs40no10 : Oper := { dst := some 23, op := Op.assign (Operand.tmp 180), type := 24, pos := "laws.go:627", after := #[{ on := 8, ground := Ground.data }, { on := 6, ground := Ground.chain }, { on := 0, ground := Ground.phase }, { on := 1, ground := Ground.phase }, { on := 2, ground := Ground.phase }, { on := 3, ground := Ground.phase }, { on := 4, ground := Ground.phase }, { on := 5, ground := Ground.phase }, { on := 6, ground := Ground.phase }, { on := 7, ground := Ground.phase }, { on := 8, ground := Ground.phase }, { on := 9, ground := Ground.textOnly Departure.lateStores }], guard := none }
def fs40no11 : Oper := { dst := some 24, op := Op.assign (Operand.tmp 181), type := 4, pos := "laws.go:627", after := #[{ on := 9, ground := Ground.data }, { on := 10, ground := Ground.chain }, { on := 0, ground := Ground.phase }, { on := 1, ground := Ground.phase }, { on := 2, ground := Ground.phase }, { on := 3, ground := Ground.phase }, { on := 4, ground := Ground.phase }, { on := 5, ground := Ground.phase }, { on := 6, ground := Ground.phase }, { on := 7, ground := Ground.phase }, { on := 8, ground := Ground.phase }, { on := 9, ground := Ground.phase }, { on := 10, ground := Ground.phase }], guard := none }
def fs40nops : Array Oper := #[fs40no0, fs40no1, fs40no2, fs40no3, fs40no4, fs40no5, fs40no6, fs40no7, fs40no8, fs40no9, fs40no10, fs40no11]
def fs40nfr (K2 S2 bx E S : List Int) (b15 b11 ga k ca : Nat) (ev q0 q2 q3 q4 q5 q6 q8 q9 q10 q12 q13 q14 q16 q17 q18 q19 q21 q22 q25 q26 q27 q28 q29 q30 q31 q32 q33 q34 q35 q36 q37 q38 q39 q40 q41 q42 q43 q44 q45 q46 q47 q48 q49 q50 q51 q52 q53 q54 q55 q56 q57 q58 q59 q60 q61 q62 q63 q64 q65 q66 q67 q68 q69 q70 q71 q72 q73 q74 q75 q76 q77 q78 q79 q80 q81 q82 q83 q84 q85 q86 q87 q88 q89 q90 q91 q92 q93 q94 q95 q96 q97 q98 q99 q100 q101 q102 q103 q104 q105 q106 q107 q108 q109 q110 q111 q112 q113 q114 q115 q116 q117 q118 q119 q120 q121 q122 q123 q124 q125 q126 q127 q128 q129 q130 q131 q132 q133 q134 q135 q136 q137 q138 q139 q140 q141 q142 q143 q144 q145 q146 q147 q148 q149 q150 q151 q152 q153 q154 q155 q156 q157 q158 q159 q160 q161 q162 q163 q164 q165 q166 q167 q168 q169 q170 q171 q182 q183 q184 q185 q186 q187 q188 q189 q190 q191 : Value) (y23 y24 y172 y173 y174 y175 y176 y177 y178 y179 y180 y181 : Value) : Act := { tmps := #[q0, undef, q2, q3, q4, q5, q6, ev, q8, q9, q10, .pointer (some ⟨b11, 0, none⟩), q12, q13, q14, .pointer (some ⟨b15, 0, none⟩), q16, q17, q18, q19, .slice (some ⟨ga, 0, none⟩) (k + 16) ca, q21, q22, y23, y24, q25, q26, q27, q28, q29, q30, q31, q32, q33, q34, q35, q36, q37, q38, q39, q40, q41, q42, q43, q44, q45, q46, q47, q48, q49, q50, q51, q52, q53, q54, q55, q56, q57, q58, q59, q60, q61, q62, q63, q64, q65, q66, q67, q68, q69, q70, q71, q72, q73, q74, q75, q76, q77, q78, q79, q80, q81, q82, q83, q84, q85, q86, q87, q88, q89, q90, q91, q92, q93, q94, q95, q96, q97, q98, q99, q100, q101, q102, q103, q104, q105, q106, q107, q108, q109, q110, q111, q112, q113, q114, q115, q116, q117, q118, q119, q120, q121, q122, q123, q124, q125, q126, q127, q128, q129, q130, q131, q132, q133, q134, q135, q136, q137, q138, q139, q140, q141, q142, q143, q144, q145, q146, q147, q148, q149, q150, q151, q152, q153, q154, q155, q156, q157, q158, q159, q160, q161, q162, q163, q164, q165, q166, q167, q168, q169, q170, q171, y172, y173, y174, y175, y176, y177, y178, y179, y180, y181, q182, q183, q184, q185, q186, q187, q188, q189, q190, q191], defers := [] }
structure fs40nIn (K2 S2 bx E S : List Int) (b15 b11 ga k ca : Nat) (ev q0 q2 q3 q4 q5 q6 q8 q9 q10 q12 q13 q14 q16 q17 q18 q19 q21 q22 q25 q26 q27 q28 q29 q30 q31 q32 q33 q34 q35 q36 q37 q38 q39 q40 q41 q42 q43 q44 q45 q46 q47 q48 q49 q50 q51 q52 q53 q54 q55 q56 q57 q58 q59 q60 q61 q62 q63 q64 q65 q66 q67 q68 q69 q70 q71 q72 q73 q74 q75 q76 q77 q78 q79 q80 q81 q82 q83 q84 q85 q86 q87 q88 q89 q90 q91 q92 q93 q94 q95 q96 q97 q98 q99 q100 q101 q102 q103 q104 q105 q106 q107 q108 q109 q110 q111 q112 q113 q114 q115 q116 q117 q118 q119 q120 q121 q122 q123 q124 q125 q126 q127 q128 q129 q130 q131 q132 q133 q134 q135 q136 q137 q138 q139 q140 q141 q142 q143 q144 q145 q146 q147 q148 q149 q150 q151 q152 q153 q154 q155 q156 q157 q158 q159 q160 q161 q162 q163 q164 q165 q166 q167 q168 q169 q170 q171 q182 q183 q184 q185 q186 q187 q188 q189 q190 q191 : Value) (W : World) (listed : Array Bool) (w : World) (y23 y24 y172 y173 y174 y175 y176 y177 y178 y179 y180 y181 : Value) : Prop where
  size : listed.size = 12
  bel : Below W.heap.size W w
  p0 : Lb listed 0 = true → y173 = .agg (Iv .u8 K2)
  p1 : Lb listed 1 = true → y174 = .agg (Iv .u8 S2)
  p2 : Lb listed 2 = true → y175 = .slice (some ⟨ga, 0, none⟩) (k + 16) ca
  p3 : Lb listed 3 = true → OwnN .u8 5 W.heap.size w y176 bx
  p4 : Lb listed 4 = true → y177 = ev
  p5 : Lb listed 5 = true → OwnN .u8 5 W.heap.size w y178 E
  p6 : Lb listed 6 = true → y179 = .tuple #[.slice none 0 0, .bool false]
  p7 : Lb listed 7 = true → y172 = .tuple #[.slice none 0 0, .bool false]
  p8 : Lb listed 8 = true → y180 = .slice none 0 0
  p9 : Lb listed 9 = true → y181 = .bool false
  p10 : Lb listed 10 = true → y23 = .slice none 0 0
  p11 : Lb listed 11 = true → y24 = .bool false
def fs40nInv (K2 S2 bx E S : List Int) (b15 b11 ga k ca : Nat) (ev q0 q2 q3 q4 q5 q6 q8 q9 q10 q12 q13 q14 q16 q17 q18 q19 q21 q22 q25 q26 q27 q28 q29 q30 q31 q32 q33 q34 q35 q36 q37 q38 q39 q40 q41 q42 q43 q44 q45 q46 q47 q48 q49 q50 q51 q52 q53 q54 q55 q56 q57 q58 q59 q60 q61 q62 q63 q64 q65 q66 q67 q68 q69 q70 q71 q72 q73 q74 q75 q76 q77 q78 q79 q80 q81 q82 q83 q84 q85 q86 q87 q88 q89 q90 q91 q92 q93 q94 q95 q96 q97 q98 q99 q100 q101 q102 q103 q104 q105 q106 q107 q108 q109 q110 q111 q112 q113 q114 q115 q116 q117 q118 q119 q120 q121 q122 q123 q124 q125 q126 q127 q128 q129 q130 q131 q132 q133 q134 q135 q136 q137 q138 q139 q140 q141 q142 q143 q144 q145 q146 q147 q148 q149 q150 q151 q152 q153 q154 q155 q156 q157 q158 q159 q160 q161 q162 q163 q164 q165 q166 q167 q168 q169 q170 q171 q182 q183 q184 q185 q186 q187 q188 q189 q190 q191 : Value) (W : World) (listed : Array Bool) (a : Act) (w : World) : Prop := ∃ y23 y24 y172 y173 y174 y175 y176 y177 y178 y179 y180 y181, a = fs40nfr K2 S2 bx E S b15 b11 ga k ca ev q0 q2 q3 q4 q5 q6 q8 q9 q10 q12 q13 q14 q16 q17 q18 q19 q21 q22 q25 q26 q27 q28 q29 q30 q31 q32 q33 q34 q35 q36 q37 q38 q39 q40 q41 q42 q43 q44 q45 q46 q47 q48 q49 q50 q51 q52 q53 q54 q55 q56 q57 q58 q59 q60 q61 q62 q63 q64 q65 q66 q67 q68 q69 q70 q71 q72 q73 q74 q75 q76 q77 q78 q79 q80 q81 q82 q83 q84 q85 q86 q87 q88 q89 q90 q91 q92 q93 q94 q95 q96 q97 q98 q99 q100 q101 q102 q103 q104 q105 q106 q107 q108 q109 q110 q111 q112 q113 q114 q115 q116 q117 q118 q119 q120 q121 q122 q123 q124 q125 q126 q127 q128 q129 q130 q131 q132 q133 q134 q135 q136 q137 q138 q139 q140 q141 q142 q143 q144 q145 q146 q147 q148 q149 q150 q151 q152 q153 q154 q155 q156 q157 q158 q159 q160 q161 q162 q163 q164 q165 q166 q167 q168 q169 q170 q171 q182 q183 q184 q185 q186 q187 q188 q189 q190 q191 y23 y24 y172 y173 y174 y175 y176 y177 y178 y179 y180 y181 ∧ fs40nIn K2 S2 bx E S b15 b11 ga k ca ev q0 q2 q3 q4 q5 q6 q8 q9 q10 q12 q13 q14 q16 q17 q18 q19 q21 q22 q25 q26 q27 q28 q29 q30 q31 q32 q33 q34 q35 q36 q37 q38 q39 q40 q41 q42 q43 q44 q45 q46 q47 q48 q49 q50 q51 q52 q53 q54 q55 q56 q57 q58 q59 q60 q61 q62 q63 q64 q65 q66 q67 q68 q69 q70 q71 q72 q73 q74 q75 q76 q77 q78 q79 q80 q81 q82 q83 q84 q85 q86 q87 q88 q89 q90 q91 q92 q93 q94 q95 q96 q97 q98 q99 q100 q101 q102 q103 q104 q105 q106 q107 q108 q109 q110 q111 q112 q113 q114 q115 q116 q117 q118 q119 q120 q121 q122 q123 q124 q125 q126 q127 q128 q129 q130 q131 q132 q133 q134 q135 q136 q137 q138 q139 q140 q141 q142 q143 q144 q145 q146 q147 q148 q149 q150 q151 q152 q153 q154 q155 q156 q157 q158 q159 q160 q161 q162 q163 q164 q165 q166 q167 q168 q169 q170 q171 q182 q183 q184 q185 q186 q187 q188 q189 q190 q191 W listed w y23 y24 y172 y173 y174 y175 y176 y177 y178 y179 y180 y181
theorem fs40nready {listed : Array Bool} (hs : listed.size = 12) (hr : Region.ready .any fs40nops listed = []) {i : Nat} (o : Oper) (ho : fs40nops[i]? = some o) (hi : i < 12) (hdep : ∀ e ∈ o.after, Region.binds .any e = true → Lb listed e.on = true) : Lb listed i = true := by
  cases hb : Lb listed i with
  | true => rfl
  | false =>
    have h1 : listed.getD i true = false := by
      have hlt : i < listed.size := by omega
      simp only [Lb, Array.getD, hlt, dif_pos] at hb ⊢
      exact hb
    have : i ∈ Region.ready .any fs40nops listed := mem_ready.2 ⟨h1, o, ho, fun e he hbd => hdep e he hbd⟩
    rw [hr] at this
    cases this
theorem fs40nall {listed : Array Bool} (hs : listed.size = 12) (hr : Region.ready .any fs40nops listed = []) : Lb listed 0 = true ∧ Lb listed 1 = true ∧ Lb listed 2 = true ∧ Lb listed 3 = true ∧ Lb listed 4 = true ∧ Lb listed 5 = true ∧ Lb listed 6 = true ∧ Lb listed 7 = true ∧ Lb listed 8 = true ∧ Lb listed 9 = true ∧ Lb listed 10 = true ∧ Lb listed 11 = true := by
  have l0 := fs40nready hs hr (i := 0) fs40no0 rfl (by omega) (by unfold fs40no0; simp only [List.mem_toArray, List.not_mem_nil, false_implies, implies_true])
  have l1 := fs40nready hs hr (i := 1) fs40no1 rfl (by omega) (by unfold fs40no1; simp only [List.mem_toArray, List.not_mem_nil, false_implies, implies_true])
  have l2 := fs40nready hs hr (i := 2) fs40no2 rfl (by omega) (by unfold fs40no2; simp only [List.mem_toArray, List.not_mem_nil, false_implies, implies_true])
  have l3 := fs40nready hs hr (i := 3) fs40no3 rfl (by omega) (by unfold fs40no3; simp only [List.mem_toArray, List.mem_cons, List.not_mem_nil, or_false, forall_eq, l2, implies_true])
  have l4 := fs40nready hs hr (i := 4) fs40no4 rfl (by omega) (by unfold fs40no4; simp only [List.mem_toArray, List.not_mem_nil, false_implies, implies_true])
  have l5 := fs40nready hs hr (i := 5) fs40no5 rfl (by omega) (by unfold fs40no5; simp only [List.mem_toArray, List.mem_cons, List.not_mem_nil, or_false, forall_eq_or_imp, forall_eq, l3, l4, implies_true, and_self])
  have l6 := fs40nready hs hr (i := 6) fs40no6 rfl (by omega) (by unfold fs40no6; simp only [List.mem_toArray, List.mem_cons, List.not_mem_nil, or_false, forall_eq_or_imp, forall_eq, l0, l1, l3, l5, implies_true, and_self])
  have l7 := fs40nready hs hr (i := 7) fs40no7 rfl (by omega) (by unfold fs40no7; simp only [List.mem_toArray, List.mem_cons, List.not_mem_nil, or_false, forall_eq, l6, implies_true])
  have l8 := fs40nready hs hr (i := 8) fs40no8 rfl (by omega) (by unfold fs40no8; simp only [List.mem_toArray, List.mem_cons, List.not_mem_nil, or_false, forall_eq, l7, implies_true])
  have l9 := fs40nready hs hr (i := 9) fs40no9 rfl (by omega) (by unfold fs40no9; simp [Region.binds, l7])
  have l10 := fs40nready hs hr (i := 10) fs40no10 rfl (by omega) (by unfold fs40no10; simp [Region.binds, l0, l1, l2, l3, l4, l5, l6, l7, l8])
  have l11 := fs40nready hs hr (i := 11) fs40no11 rfl (by omega) (by unfold fs40no11; simp only [List.mem_toArray, List.mem_cons, List.not_mem_nil, or_false, forall_eq_or_imp, forall_eq, l0, l1, l2, l3, l4, l5, l6, l7, l8, l9, l10, implies_true, and_self])
  exact ⟨l0, l1, l2, l3, l4, l5, l6, l7, l8, l9, l10, l11⟩
theorem fs40ndep {listed : Array Bool} {i : Nat} (h : i ∈ Region.ready .any fs40nops listed) (o : Oper) (ho : fs40nops[i]? = some o) : listed.getD i true = false ∧ ∀ e ∈ o.after, Region.binds .any e = true → Lb listed e.on = true := by
  obtain ⟨h1, o', ho', hd⟩ := mem_ready.1 h
  rw [ho] at ho'
  cases ho'
  exact ⟨h1, hd⟩
set_option maxRecDepth 10000 in
set_option maxHeartbeats 2000000 in
theorem fs40ns0 {K2 S2 bx E S : List Int} {b15 b11 ga k ca : Nat} {ev q0 q2 q3 q4 q5 q6 q8 q9 q10 q12 q13 q14 q16 q17 q18 q19 q21 q22 q25 q26 q27 q28 q29 q30 q31 q32 q33 q34 q35 q36 q37 q38 q39 q40 q41 q42 q43 q44 q45 q46 q47 q48 q49 q50 q51 q52 q53 q54 q55 q56 q57 q58 q59 q60 q61 q62 q63 q64 q65 q66 q67 q68 q69 q70 q71 q72 q73 q74 q75 q76 q77 q78 q79 q80 q81 q82 q83 q84 q85 q86 q87 q88 q89 q90 q91 q92 q93 q94 q95 q96 q97 q98 q99 q100 q101 q102 q103 q104 q105 q106 q107 q108 q109 q110 q111 q112 q113 q114 q115 q116 q117 q118 q119 q120 q121 q122 q123 q124 q125 q126 q127 q128 q129 q130 q131 q132 q133 q134 q135 q136 q137 q138 q139 q140 q141 q142 q143 q144 q145 q146 q147 q148 q149 q150 q151 q152 q153 q154 q155 q156 q157 q158 q159 q160 q161 q162 q163 q164 q165 q166 q167 q168 q169 q170 q171 q182 q183 q184 q185 q186 q187 q188 q189 q190 q191 : Value} {W : World} {listed : Array Bool} {w : World} {y23 y24 y172 y173 y174 y175 y176 y177 y178 y179 y180 y181 : Value} {Q : Exit → Act → World → Prop} (h : fs40nIn K2 S2 bx E S b15 b11 ga k ca ev q0 q2 q3 q4 q5 q6 q8 q9 q10 q12 q13 q14 q16 q17 q18 q19 q21 q22 q25 q26 q27 q28 q29 q30 q31 q32 q33 q34 q35 q36 q37 q38 q39 q40 q41 q42 q43 q44 q45 q46 q47 q48 q49 q50 q51 q52 q53 q54 q55 q56 q57 q58 q59 q60 q61 q62 q63 q64 q65 q66 q67 q68 q69 q70 q71 q72 q73 q74 q75 q76 q77 q78 q79 q80 q81 q82 q83 q84 q85 q86 q87 q88 q89 q90 q91 q92 q93 q94 q95 q96 q97 q98 q99 q100 q101 q102 q103 q104 q105 q106 q107 q108 q109 q110 q111 q112 q113 q114 q115 q116 q117 q118 q119 q120 q121 q122 q123 q124 q125 q126 q127 q128 q129 q130 q131 q132 q133 q134 q135 q136 q137 q138 q139 q140 q141 q142 q143 q144 q145 q146 q147 q148 q149 q150 q151 q152 q153 q154 q155 q156 q157 q158 q159 q160 q161 q162 q163 q164 q165 q166 q167 q168 q169 q170 q171 q182 q183 q184 q185 q186 q187 q188 q189 q190 q191 W listed w y23 y24 y172 y173 y174 y175 y176 y177 y178 y179 y180 y181) (hi : 0 ∈ Region.ready .any fs40nops listed) (hrow : W.heap[b15]? = some (.cells (Iv .u8 K2) 22)) (hblt : b15 < W.heap.size) (hinf : (Tryd.prog.info? 22).map (·.size) = some ((Iv .u8 K2)).size) :
    wpList Tryd.prog fs40nops (atEnd (fs40nInv K2 S2 bx E S b15 b11 ga k ca ev q0 q2 q3 q4 q5 q6 q8 q9 q10 q12 q13 q14 q16 q17 q18 q19 q21 q22 q25 q26 q27 q28 q29 q30 q31 q32 q33 q34 q35 q36 q37 q38 q39 q40 q41 q42 q43 q44 q45 q46 q47 q48 q49 q50 q51 q52 q53 q54 q55 q56 q57 q58 q59 q60 q61 q62 q63 q64 q65 q66 q67 q68 q69 q70 q71 q72 q73 q74 q75 q76 q77 q78 q79 q80 q81 q82 q83 q84 q85 q86 q87 q88 q89 q90 q91 q92 q93 q94 q95 q96 q97 q98 q99 q100 q101 q102 q103 q104 q105 q106 q107 q108 q109 q110 q111 q112 q113 q114 q115 q116 q117 q118 q119 q120 q121 q122 q123 q124 q125 q126 q127 q128 q129 q130 q131 q132 q133 q134 q135 q136 q137 q138 q139 q140 q141 q142 q143 q144 q145 q146 q147 q148 q149 q150 q151 q152 q153 q154 q155 q156 q157 q158 q159 q160 q161 q162 q163 q164 q165 q166 q167 q168 q169 q170 q171 q182 q183 q184 q185 q186 q187 q188 q189 q190 q191 W (listed.setIfInBounds 0 true)) Q) [fs40no0] (fs40nfr K2 S2 bx E S b15 b11 ga k ca ev q0 q2 q3 q4 q5 q6 q8 q9 q10 q12 q13 q14 q16 q17 q18 q19 q21 q22 q25 q26 q27 q28 q29 q30 q31 q32 q33 q34 q35 q36 q37 q38 q39 q40 q41 q42 q43 q44 q45 q46 q47 q48 q49 q50 q51 q52 q53 q54 q55 q56 q57 q58 q59 q60 q61 q62 q63 q64 q65 q66 q67 q68 q69 q70 q71 q72 q73 q74 q75 q76 q77 q78 q79 q80 q81 q82 q83 q84 q85 q86 q87 q88 q89 q90 q91 q92 q93 q94 q95 q96 q97 q98 q99 q100 q101 q102 q103 q104 q105 q106 q107 q108 q109 q110 q111 q112 q113 q114 q115 q116 q117 q118 q119 q120 q121 q122 q123 q124 q125 q126 q127 q128 q129 q130 q131 q132 q133 q134 q135 q136 q137 q138 q139 q140 q141 q142 q143 q144 q145 q146 q147 q148 q149 q150 q151 q152 q153 q154 q155 q156 q157 q158 q159 q160 q161 q162 q163 q164 q165 q166 q167 q168 q169 q170 q171 q182 q183 q184 q185 q186 q187 q188 q189 q190 q191 y23 y24 y172 y173 y174 y175 y176 y177 y178 y179 y180 y181) w := by
  obtain ⟨hn1, hdep⟩ := fs40ndep hi fs40no0 rfl
  obtain ⟨hlt, hno⟩ := cha_no hn1
  have G0 : Hid _ := (h.bel.block _ hblt).trans hrow
  have hik : Hid _ := hinf
  have HH : Hid _ := h
  clear h hdep hn1 hrow hinf
  unfold fs40nfr fs40no0
  go_wp2_with (refine wpList_load_row rfl 22 _ rfl (b15) rfl _ (Iv .u8 K2) _ _ G0.out Tryd.underlying22 rfl hik.out ?_)
  have h := HH.out
  have hb := Below.refl w.heap.size w
  refine ⟨_, _, _, _, _, _, _, _, _, _, _, _, rfl, {
    size := by simpa using h.size
    bel := h.bel.trans (hb.mono h.bel.size)
    p0 := fun _ => rfl
    p1 := fun hl => h.p1 (by rwa [Lb_ne (by omega)] at hl)
    p2 := fun hl => h.p2 (by rwa [Lb_ne (by omega)] at hl)
    p3 := fun hl => (h.p3 (by rwa [Lb_ne (by omega)] at hl)).later hb
    p4 := fun hl => h.p4 (by rwa [Lb_ne (by omega)] at hl)
    p5 := fun hl => (h.p5 (by rwa [Lb_ne (by omega)] at hl)).later hb
    p6 := fun hl => h.p6 (by rwa [Lb_ne (by omega)] at hl)
    p7 := fun hl => h.p7 (by rwa [Lb_ne (by omega)] at hl)
    p8 := fun hl => h.p8 (by rwa [Lb_ne (by omega)] at hl)
    p9 := fun hl => h.p9 (by rwa [Lb_ne (by omega)] at hl)
    p10 := fun hl => h.p10 (by rwa [Lb_ne (by omega)] at hl)
    p11 := fun hl => h.p11 (by rwa [Lb_ne (by omega)] at hl) }⟩
set_option maxRecDepth 10000 in
set_option maxHeartbeats 2000000 in
theorem fs40ns1 {K2 S2 bx E S : List Int} {b15 b11 ga k ca : Nat} {ev q0 q2 q3 q4 q5 q6 q8 q9 q10 q12 q13 q14 q16 q17 q18 q19 q21 q22 q25 q26 q27 q28 q29 q30 q31 q32 q33 q34 q35 q36 q37 q38 q39 q40 q41 q42 q43 q44 q45 q46 q47 q48 q49 q50 q51 q52 q53 q54 q55 q56 q57 q58 q59 q60 q61 q62 q63 q64 q65 q66 q67 q68 q69 q70 q71 q72 q73 q74 q75 q76 q77 q78 q79 q80 q81 q82 q83 q84 q85 q86 q87 q88 q89 q90 q91 q92 q93 q94 q95 q96 q97 q98 q99 q100 q101 q102 q103 q104 q105 q106 q107 q108 q109 q110 q111 q112 q113 q114 q115 q116 q117 q118 q119 q120 q121 q122 q123 q124 q125 q126 q127 q128 q129 q130 q131 q132 q133 q134 q135 q136 q137 q138 q139 q140 q141 q142 q143 q144 q145 q146 q147 q148 q149 q150 q151 q152 q153 q154 q155 q156 q157 q158 q159 q160 q161 q162 q163 q164 q165 q166 q167 q168 q169 q170 q171 q182 q183 q184 q185 q186 q187 q188 q189 q190 q191 : Value} {W : World} {listed : Array Bool} {w : World} {y23 y24 y172 y173 y174 y175 y176 y177 y178 y179 y180 y181 : Value} {Q : Exit → Act → World → Prop} (h : fs40nIn K2 S2 bx E S b15 b11 ga k ca ev q0 q2 q3 q4 q5 q6 q8 q9 q10 q12 q13 q14 q16 q17 q18 q19 q21 q22 q25 q26 q27 q28 q29 q30 q31 q32 q33 q34 q35 q36 q37 q38 q39 q40 q41 q42 q43 q44 q45 q46 q47 q48 q49 q50 q51 q52 q53 q54 q55 q56 q57 q58 q59 q60 q61 q62 q63 q64 q65 q66 q67 q68 q69 q70 q71 q72 q73 q74 q75 q76 q77 q78 q79 q80 q81 q82 q83 q84 q85 q86 q87 q88 q89 q90 q91 q92 q93 q94 q95 q96 q97 q98 q99 q100 q101 q102 q103 q104 q105 q106 q107 q108 q109 q110 q111 q112 q113 q114 q115 q116 q117 q118 q119 q120 q121 q122 q123 q124 q125 q126 q127 q128 q129 q130 q131 q132 q133 q134 q135 q136 q137 q138 q139 q140 q141 q142 q143 q144 q145 q146 q147 q148 q149 q150 q151 q152 q153 q154 q155 q156 q157 q158 q159 q160 q161 q162 q163 q164 q165 q166 q167 q168 q169 q170 q171 q182 q183 q184 q185 q186 q187 q188 q189 q190 q191 W listed w y23 y24 y172 y173 y174 y175 y176 y177 y178 y179 y180 y181) (hi : 1 ∈ Region.ready .any fs40nops listed) (hrow : W.heap[b11]? = some (.cells (Iv .u8 S2) 23)) (hblt : b11 < W.heap.size) (hinf : (Tryd.prog.info? 23).map (·.size) = some ((Iv .u8 S2)).size) :
    wpList Tryd.prog fs40nops (atEnd (fs40nInv K2 S2 bx E S b15 b11 ga k ca ev q0 q2 q3 q4 q5 q6 q8 q9 q10 q12 q13 q14 q16 q17 q18 q19 q21 q22 q25 q26 q27 q28 q29 q30 q31 q32 q33 q34 q35 q36 q37 q38 q39 q40 q41 q42 q43 q44 q45 q46 q47 q48 q49 q50 q51 q52 q53 q54 q55 q56 q57 q58 q59 q60 q61 q62 q63 q64 q65 q66 q67 q68 q69 q70 q71 q72 q73 q74 q75 q76 q77 q78 q79 q80 q81 q82 q83 q84 q85 q86 q87 q88 q89 q90 q91 q92 q93 q94 q95 q96 q97 q98 q99 q100 q101 q102 q103 q104 q105 q106 q107 q108 q109 q110 q111 q112 q113 q114 q115 q116 q117 q118 q119 q120 q121 q122 q123 q124 q125 q126 q127 q128 q129 q130 q131 q132 q133 q134 q135 q136 q137 q138 q139 q140 q141 q142 q143 q144 q145 q146 q147 q148 q149 q150 q151 q152 q153 q154 q155 q156 q157 q158 q159 q160 q161 q162 q163 q164 q165 q166 q167 q168 q169 q170 q171 q182 q183 q184 q185 q186 q187 q188 q189 q190 q191 W (listed.setIfInBounds 1 true)) Q) [fs40no1] (fs40nfr K2 S2 bx E S b15 b11 ga k ca ev q0 q2 q3 q4 q5 q6 q8 q9 q10 q12 q13 q14 q16 q17 q18 q19 q21 q22 q25 q26 q27 q28 q29 q30 q31 q32 q33 q34 q35 q36 q37 q38 q39 q40 q41 q42 q43 q44 q45 q46 q47 q48 q49 q50 q51 q52 q53 q54 q55 q56 q57 q58 q59 q60 q61 q62 q63 q64 q65 q66 q67 q68 q69 q70 q71 q72 q73 q74 q75 q76 q77 q78 q79 q80 q81 q82 q83 q84 q85 q86 q87 q88 q89 q90 q91 q92 q93 q94 q95 q96 q97 q98 q99 q100 q101 q102 q103 q104 q105 q106 q107 q108 q109 q110 q111 q112 q113 q114 q115 q116 q117 q118 q119 q120 q121 q122 q123 q124 q125 q126 q127 q128 q129 q130 q131 q132 q133 q134 q135 q136 q137 q138 q139 q140 q141 q142 q143 q144 q145 q146 q147 q148 q149 q150 q151 q152 q153 q154 q155 q156 q157 q158 q159 q160 q161 q162 q163 q164 q165 q166 q167 q168 q169 q170 q171 q182 q183 q184 q185 q186 q187 q188 q189 q190 q191 y23 y24 y172 y173 y174 y175 y176 y177 y178 y179 y180 y181) w := by
  obtain ⟨hn1, hdep⟩ := fs40ndep hi fs40no1 rfl
  obtain ⟨hlt, hno⟩ := cha_no hn1
  have G0 : Hid _ := (h.bel.block _ hblt).trans hrow
  have hik : Hid _ := hinf
  have HH : Hid _ := h
  clear h hdep hn1 hrow hinf
  unfold fs40nfr fs40no1
  go_wp2_with (refine wpList_load_row rfl 23 _ rfl (b11) rfl _ (Iv .u8 S2) _ _ G0.out Tryd.underlying23 rfl hik.out ?_)
  have h := HH.out
  have hb := Below.refl w.heap.size w
  refine ⟨_, _, _, _, _, _, _, _, _, _, _, _, rfl, {
    size := by simpa using h.size
    bel := h.bel.trans (hb.mono h.bel.size)
    p0 := fun hl => h.p0 (by rwa [Lb_ne (by omega)] at hl)
    p1 := fun _ => rfl
    p2 := fun hl => h.p2 (by rwa [Lb_ne (by omega)] at hl)
    p3 := fun hl => (h.p3 (by rwa [Lb_ne (by omega)] at hl)).later hb
    p4 := fun hl => h.p4 (by rwa [Lb_ne (by omega)] at hl)
    p5 := fun hl => (h.p5 (by rwa [Lb_ne (by omega)] at hl)).later hb
    p6 := fun hl => h.p6 (by rwa [Lb_ne (by omega)] at hl)
    p7 := fun hl => h.p7 (by rwa [Lb_ne (by omega)] at hl)
    p8 := fun hl => h.p8 (by rwa [Lb_ne (by omega)] at hl)
    p9 := fun hl => h.p9 (by rwa [Lb_ne (by omega)] at hl)
    p10 := fun hl => h.p10 (by rwa [Lb_ne (by omega)] at hl)
    p11 := fun hl => h.p11 (by rwa [Lb_ne (by omega)] at hl) }⟩
set_option maxRecDepth 10000 in
set_option maxHeartbeats 2000000 in
theorem fs40ns2 {K2 S2 bx E S : List Int} {b15 b11 ga k ca : Nat} {ev q0 q2 q3 q4 q5 q6 q8 q9 q10 q12 q13 q14 q16 q17 q18 q19 q21 q22 q25 q26 q27 q28 q29 q30 q31 q32 q33 q34 q35 q36 q37 q38 q39 q40 q41 q42 q43 q44 q45 q46 q47 q48 q49 q50 q51 q52 q53 q54 q55 q56 q57 q58 q59 q60 q61 q62 q63 q64 q65 q66 q67 q68 q69 q70 q71 q72 q73 q74 q75 q76 q77 q78 q79 q80 q81 q82 q83 q84 q85 q86 q87 q88 q89 q90 q91 q92 q93 q94 q95 q96 q97 q98 q99 q100 q101 q102 q103 q104 q105 q106 q107 q108 q109 q110 q111 q112 q113 q114 q115 q116 q117 q118 q119 q120 q121 q122 q123 q124 q125 q126 q127 q128 q129 q130 q131 q132 q133 q134 q135 q136 q137 q138 q139 q140 q141 q142 q143 q144 q145 q146 q147 q148 q149 q150 q151 q152 q153 q154 q155 q156 q157 q158 q159 q160 q161 q162 q163 q164 q165 q166 q167 q168 q169 q170 q171 q182 q183 q184 q185 q186 q187 q188 q189 q190 q191 : Value} {W : World} {listed : Array Bool} {w : World} {y23 y24 y172 y173 y174 y175 y176 y177 y178 y179 y180 y181 : Value} {Q : Exit → Act → World → Prop} (h : fs40nIn K2 S2 bx E S b15 b11 ga k ca ev q0 q2 q3 q4 q5 q6 q8 q9 q10 q12 q13 q14 q16 q17 q18 q19 q21 q22 q25 q26 q27 q28 q29 q30 q31 q32 q33 q34 q35 q36 q37 q38 q39 q40 q41 q42 q43 q44 q45 q46 q47 q48 q49 q50 q51 q52 q53 q54 q55 q56 q57 q58 q59 q60 q61 q62 q63 q64 q65 q66 q67 q68 q69 q70 q71 q72 q73 q74 q75 q76 q77 q78 q79 q80 q81 q82 q83 q84 q85 q86 q87 q88 q89 q90 q91 q92 q93 q94 q95 q96 q97 q98 q99 q100 q101 q102 q103 q104 q105 q106 q107 q108 q109 q110 q111 q112 q113 q114 q115 q116 q117 q118 q119 q120 q121 q122 q123 q124 q125 q126 q127 q128 q129 q130 q131 q132 q133 q134 q135 q136 q137 q138 q139 q140 q141 q142 q143 q144 q145 q146 q147 q148 q149 q150 q151 q152 q153 q154 q155 q156 q157 q158 q159 q160 q161 q162 q163 q164 q165 q166 q167 q168 q169 q170 q171 q182 q183 q184 q185 q186 q187 q188 q189 q190 q191 W listed w y23 y24 y172 y173 y174 y175 y176 y177 y178 y179 y180 y181) (hi : 2 ∈ Region.ready .any fs40nops listed) :
    wpList Tryd.prog fs40nops (atEnd (fs40nInv K2 S2 bx E S b15 b11 ga k ca ev q0 q2 q3 q4 q5 q6 q8 q9 q10 q12 q13 q14 q16 q17 q18 q19 q21 q22 q25 q26 q27 q28 q29 q30 q31 q32 q33 q34 q35 q36 q37 q38 q39 q40 q41 q42 q43 q44 q45 q46 q47 q48 q49 q50 q51 q52 q53 q54 q55 q56 q57 q58 q59 q60 q61 q62 q63 q64 q65 q66 q67 q68 q69 q70 q71 q72 q73 q74 q75 q76 q77 q78 q79 q80 q81 q82 q83 q84 q85 q86 q87 q88 q89 q90 q91 q92 q93 q94 q95 q96 q97 q98 q99 q100 q101 q102 q103 q104 q105 q106 q107 q108 q109 q110 q111 q112 q113 q114 q115 q116 q117 q118 q119 q120 q121 q122 q123 q124 q125 q126 q127 q128 q129 q130 q131 q132 q133 q134 q135 q136 q137 q138 q139 q140 q141 q142 q143 q144 q145 q146 q147 q148 q149 q150 q151 q152 q153 q154 q155 q156 q157 q158 q159 q160 q161 q162 q163 q164 q165 q166 q167 q168 q169 q170 q171 q182 q183 q184 q185 q186 q187 q188 q189 q190 q191 W (listed.setIfInBounds 2 true)) Q) [fs40no2] (fs40nfr K2 S2 bx E S b15 b11 ga k ca ev q0 q2 q3 q4 q5 q6 q8 q9 q10 q12 q13 q14 q16 q17 q18 q19 q21 q22 q25 q26 q27 q28 q29 q30 q31 q32 q33 q34 q35 q36 q37 q38 q39 q40 q41 q42 q43 q44 q45 q46 q47 q48 q49 q50 q51 q52 q53 q54 q55 q56 q57 q58 q59 q60 q61 q62 q63 q64 q65 q66 q67 q68 q69 q70 q71 q72 q73 q74 q75 q76 q77 q78 q79 q80 q81 q82 q83 q84 q85 q86 q87 q88 q89 q90 q91 q92 q93 q94 q95 q96 q97 q98 q99 q100 q101 q102 q103 q104 q105 q106 q107 q108 q109 q110 q111 q112 q113 q114 q115 q116 q117 q118 q119 q120 q121 q122 q123 q124 q125 q126 q127 q128 q129 q130 q131 q132 q133 q134 q135 q136 q137 q138 q139 q140 q141 q142 q143 q144 q145 q146 q147 q148 q149 q150 q151 q152 q153 q154 q155 q156 q157 q158 q159 q160 q161 q162 q163 q164 q165 q166 q167 q168 q169 q170 q171 q182 q183 q184 q185 q186 q187 q188 q189 q190 q191 y23 y24 y172 y173 y174 y175 y176 y177 y178 y179 y180 y181) w := by
  obtain ⟨hn1, hdep⟩ := fs40ndep hi fs40no2 rfl
  obtain ⟨hlt, hno⟩ := cha_no hn1
  have HH : Hid _ := h
  clear h hdep hn1
  unfold fs40nfr fs40no2
  go_wp2_with fail
  have h := HH.out
  have hb := Below.refl w.heap.size w
  refine ⟨_, _, _, _, _, _, _, _, _, _, _, _, rfl, {
    size := by simpa using h.size
    bel := h.bel.trans (hb.mono h.bel.size)
    p0 := fun hl => h.p0 (by rwa [Lb_ne (by omega)] at hl)
    p1 := fun hl => h.p1 (by rwa [Lb_ne (by omega)] at hl)
    p2 := fun _ => rfl
    p3 := fun hl => (h.p3 (by rwa [Lb_ne (by omega)] at hl)).later hb
    p4 := fun hl => h.p4 (by rwa [Lb_ne (by omega)] at hl)
    p5 := fun hl => (h.p5 (by rwa [Lb_ne (by omega)] at hl)).later hb
    p6 := fun hl => h.p6 (by rwa [Lb_ne (by omega)] at hl)
    p7 := fun hl => h.p7 (by rwa [Lb_ne (by omega)] at hl)
    p8 := fun hl => h.p8 (by rwa [Lb_ne (by omega)] at hl)
    p9 := fun hl => h.p9 (by rwa [Lb_ne (by omega)] at hl)
    p10 := fun hl => h.p10 (by rwa [Lb_ne (by omega)] at hl)
    p11 := fun hl => h.p11 (by rwa [Lb_ne (by omega)] at hl) }⟩
set_option maxRecDepth 10000 in
set_option maxHeartbeats 2000000 in
theorem fs40ns3 {K2 S2 bx E S : List Int} {b15 b11 ga k ca : Nat} {ev q0 q2 q3 q4 q5 q6 q8 q9 q10 q12 q13 q14 q16 q17 q18 q19 q21 q22 q25 q26 q27 q28 q29 q30 q31 q32 q33 q34 q35 q36 q37 q38 q39 q40 q41 q42 q43 q44 q45 q46 q47 q48 q49 q50 q51 q52 q53 q54 q55 q56 q57 q58 q59 q60 q61 q62 q63 q64 q65 q66 q67 q68 q69 q70 q71 q72 q73 q74 q75 q76 q77 q78 q79 q80 q81 q82 q83 q84 q85 q86 q87 q88 q89 q90 q91 q92 q93 q94 q95 q96 q97 q98 q99 q100 q101 q102 q103 q104 q105 q106 q107 q108 q109 q110 q111 q112 q113 q114 q115 q116 q117 q118 q119 q120 q121 q122 q123 q124 q125 q126 q127 q128 q129 q130 q131 q132 q133 q134 q135 q136 q137 q138 q139 q140 q141 q142 q143 q144 q145 q146 q147 q148 q149 q150 q151 q152 q153 q154 q155 q156 q157 q158 q159 q160 q161 q162 q163 q164 q165 q166 q167 q168 q169 q170 q171 q182 q183 q184 q185 q186 q187 q188 q189 q190 q191 : Value} {W : World} {listed : Array Bool} {w : World} {y23 y24 y172 y173 y174 y175 y176 y177 y178 y179 y180 y181 : Value} {Q : Exit → Act → World → Prop} (h : fs40nIn K2 S2 bx E S b15 b11 ga k ca ev q0 q2 q3 q4 q5 q6 q8 q9 q10 q12 q13 q14 q16 q17 q18 q19 q21 q22 q25 q26 q27 q28 q29 q30 q31 q32 q33 q34 q35 q36 q37 q38 q39 q40 q41 q42 q43 q44 q45 q46 q47 q48 q49 q50 q51 q52 q53 q54 q55 q56 q57 q58 q59 q60 q61 q62 q63 q64 q65 q66 q67 q68 q69 q70 q71 q72 q73 q74 q75 q76 q77 q78 q79 q80 q81 q82 q83 q84 q85 q86 q87 q88 q89 q90 q91 q92 q93 q94 q95 q96 q97 q98 q99 q100 q101 q102 q103 q104 q105 q106 q107 q108 q109 q110 q111 q112 q113 q114 q115 q116 q117 q118 q119 q120 q121 q122 q123 q124 q125 q126 q127 q128 q129 q130 q131 q132 q133 q134 q135 q136 q137 q138 q139 q140 q141 q142 q143 q144 q145 q146 q147 q148 q149 q150 q151 q152 q153 q154 q155 q156 q157 q158 q159 q160 q161 q162 q163 q164 q165 q166 q167 q168 q169 q170 q171 q182 q183 q184 q185 q186 q187 q188 q189 q190 q191 W listed w y23 y24 y172 y173 y174 y175 y176 y177 y178 y179 y180 y181) (hi : 3 ∈ Region.ready .any fs40nops listed) (hcon : ∀ w, Below W.heap.size W w → Calls Tryd.prog 29 #[.slice (some ⟨ga, 0, none⟩) (k + 16) ca] w fun e w' => ∃ v, e = .returned v ∧ OwnN .u8 5 w.heap.size w' v bx ∧ Below w.heap.size w w') :
    wpList Tryd.prog fs40nops (atEnd (fs40nInv K2 S2 bx E S b15 b11 ga k ca ev q0 q2 q3 q4 q5 q6 q8 q9 q10 q12 q13 q14 q16 q17 q18 q19 q21 q22 q25 q26 q27 q28 q29 q30 q31 q32 q33 q34 q35 q36 q37 q38 q39 q40 q41 q42 q43 q44 q45 q46 q47 q48 q49 q50 q51 q52 q53 q54 q55 q56 q57 q58 q59 q60 q61 q62 q63 q64 q65 q66 q67 q68 q69 q70 q71 q72 q73 q74 q75 q76 q77 q78 q79 q80 q81 q82 q83 q84 q85 q86 q87 q88 q89 q90 q91 q92 q93 q94 q95 q96 q97 q98 q99 q100 q101 q102 q103 q104 q105 q106 q107 q108 q109 q110 q111 q112 q113 q114 q115 q116 q117 q118 q119 q120 q121 q122 q123 q124 q125 q126 q127 q128 q129 q130 q131 q132 q133 q134 q135 q136 q137 q138 q139 q140 q141 q142 q143 q144 q145 q146 q147 q148 q149 q150 q151 q152 q153 q154 q155 q156 q157 q158 q159 q160 q161 q162 q163 q164 q165 q166 q167 q168 q169 q170 q171 q182 q183 q184 q185 q186 q187 q188 q189 q190 q191 W (listed.setIfInBounds 3 true)) Q) [fs40no3] (fs40nfr K2 S2 bx E S b15 b11 ga k ca ev q0 q2 q3 q4 q5 q6 q8 q9 q10 q12 q13 q14 q16 q17 q18 q19 q21 q22 q25 q26 q27 q28 q29 q30 q31 q32 q33 q34 q35 q36 q37 q38 q39 q40 q41 q42 q43 q44 q45 q46 q47 q48 q49 q50 q51 q52 q53 q54 q55 q56 q57 q58 q59 q60 q61 q62 q63 q64 q65 q66 q67 q68 q69 q70 q71 q72 q73 q74 q75 q76 q77 q78 q79 q80 q81 q82 q83 q84 q85 q86 q87 q88 q89 q90 q91 q92 q93 q94 q95 q96 q97 q98 q99 q100 q101 q102 q103 q104 q105 q106 q107 q108 q109 q110 q111 q112 q113 q114 q115 q116 q117 q118 q119 q120 q121 q122 q123 q124 q125 q126 q127 q128 q129 q130 q131 q132 q133 q134 q135 q136 q137 q138 q139 q140 q141 q142 q143 q144 q145 q146 q147 q148 q149 q150 q151 q152 q153 q154 q155 q156 q157 q158 q159 q160 q161 q162 q163 q164 q165 q166 q167 q168 q169 q170 q171 q182 q183 q184 q185 q186 q187 q188 q189 q190 q191 y23 y24 y172 y173 y174 y175 y176 y177 y178 y179 y180 y181) w := by
  obtain ⟨hn1, hdep⟩ := fs40ndep hi fs40no3 rfl
  obtain ⟨hlt, hno⟩ := cha_no hn1
  have l2 : Lb listed 2 = true := hdep { on := 2, ground := Ground.data } (by unfold fs40no3; simp) rfl
  obtain rfl := h.p2 l2
  have HC : Hid _ := hcon w  h.bel 
  have HH : Hid _ := h
  clear h hdep hn1 hcon
  unfold fs40nfr fs40no3
  go_wp2_with fail
  refine Calls.mono HC.out ?_
  rintro e w' ⟨v, rfl, ho, hb⟩
  go_wp2_with fail
  have h := HH.out
  refine ⟨_, _, _, _, _, _, _, _, _, _, _, _, rfl, {
    size := by simpa using h.size
    bel := h.bel.trans (hb.mono h.bel.size)
    p0 := fun hl => h.p0 (by rwa [Lb_ne (by omega)] at hl)
    p1 := fun hl => h.p1 (by rwa [Lb_ne (by omega)] at hl)
    p2 := fun hl => h.p2 (by rwa [Lb_ne (by omega)] at hl)
    p3 := fun _ => ho.mono h.bel.size
    p4 := fun hl => h.p4 (by rwa [Lb_ne (by omega)] at hl)
    p5 := fun hl => (h.p5 (by rwa [Lb_ne (by omega)] at hl)).later hb
    p6 := fun hl => h.p6 (by rwa [Lb_ne (by omega)] at hl)
    p7 := fun hl => h.p7 (by rwa [Lb_ne (by omega)] at hl)
    p8 := fun hl => h.p8 (by rwa [Lb_ne (by omega)] at hl)
    p9 := fun hl => h.p9 (by rwa [Lb_ne (by omega)] at hl)
    p10 := fun hl => h.p10 (by rwa [Lb_ne (by omega)] at hl)
    p11 := fun hl => h.p11 (by rwa [Lb_ne (by omega)] at hl) }⟩
set_option maxRecDepth 10000 in
set_option maxHeartbeats 2000000 in
theorem fs40ns4 {K2 S2 bx E S : List Int} {b15 b11 ga k ca : Nat} {ev q0 q2 q3 q4 q5 q6 q8 q9 q10 q12 q13 q14 q16 q17 q18 q19 q21 q22 q25 q26 q27 q28 q29 q30 q31 q32 q33 q34 q35 q36 q37 q38 q39 q40 q41 q42 q43 q44 q45 q46 q47 q48 q49 q50 q51 q52 q53 q54 q55 q56 q57 q58 q59 q60 q61 q62 q63 q64 q65 q66 q67 q68 q69 q70 q71 q72 q73 q74 q75 q76 q77 q78 q79 q80 q81 q82 q83 q84 q85 q86 q87 q88 q89 q90 q91 q92 q93 q94 q95 q96 q97 q98 q99 q100 q101 q102 q103 q104 q105 q106 q107 q108 q109 q110 q111 q112 q113 q114 q115 q116 q117 q118 q119 q120 q121 q122 q123 q124 q125 q126 q127 q128 q129 q130 q131 q132 q133 q134 q135 q136 q137 q138 q139 q140 q141 q142 q143 q144 q145 q146 q147 q148 q149 q150 q151 q152 q153 q154 q155 q156 q157 q158 q159 q160 q161 q162 q163 q164 q165 q166 q167 q168 q169 q170 q171 q182 q183 q184 q185 q186 q187 q188 q189 q190 q191 : Value} {W : World} {listed : Array Bool} {w : World} {y23 y24 y172 y173 y174 y175 y176 y177 y178 y179 y180 y181 : Value} {Q : Exit → Act → World → Prop} (h : fs40nIn K2 S2 bx E S b15 b11 ga k ca ev q0 q2 q3 q4 q5 q6 q8 q9 q10 q12 q13 q14 q16 q17 q18 q19 q21 q22 q25 q26 q27 q28 q29 q30 q31 q32 q33 q34 q35 q36 q37 q38 q39 q40 q41 q42 q43 q44 q45 q46 q47 q48 q49 q50 q51 q52 q53 q54 q55 q56 q57 q58 q59 q60 q61 q62 q63 q64 q65 q66 q67 q68 q69 q70 q71 q72 q73 q74 q75 q76 q77 q78 q79 q80 q81 q82 q83 q84 q85 q86 q87 q88 q89 q90 q91 q92 q93 q94 q95 q96 q97 q98 q99 q100 q101 q102 q103 q104 q105 q106 q107 q108 q109 q110 q111 q112 q113 q114 q115 q116 q117 q118 q119 q120 q121 q122 q123 q124 q125 q126 q127 q128 q129 q130 q131 q132 q133 q134 q135 q136 q137 q138 q139 q140 q141 q142 q143 q144 q145 q146 q147 q148 q149 q150 q151 q152 q153 q154 q155 q156 q157 q158 q159 q160 q161 q162 q163 q164 q165 q166 q167 q168 q169 q170 q171 q182 q183 q184 q185 q186 q187 q188 q189 q190 q191 W listed w y23 y24 y172 y173 y174 y175 y176 y177 y178 y179 y180 y181) (hi : 4 ∈ Region.ready .any fs40nops listed) :
    wpList Tryd.prog fs40nops (atEnd (fs40nInv K2 S2 bx E S b15 b11 ga k ca ev q0 q2 q3 q4 q5 q6 q8 q9 q10 q12 q13 q14 q16 q17 q18 q19 q21 q22 q25 q26 q27 q28 q29 q30 q31 q32 q33 q34 q35 q36 q37 q38 q39 q40 q41 q42 q43 q44 q45 q46 q47 q48 q49 q50 q51 q52 q53 q54 q55 q56 q57 q58 q59 q60 q61 q62 q63 q64 q65 q66 q67 q68 q69 q70 q71 q72 q73 q74 q75 q76 q77 q78 q79 q80 q81 q82 q83 q84 q85 q86 q87 q88 q89 q90 q91 q92 q93 q94 q95 q96 q97 q98 q99 q100 q101 q102 q103 q104 q105 q106 q107 q108 q109 q110 q111 q112 q113 q114 q115 q116 q117 q118 q119 q120 q121 q122 q123 q124 q125 q126 q127 q128 q129 q130 q131 q132 q133 q134 q135 q136 q137 q138 q139 q140 q141 q142 q143 q144 q145 q146 q147 q148 q149 q150 q151 q152 q153 q154 q155 q156 q157 q158 q159 q160 q161 q162 q163 q164 q165 q166 q167 q168 q169 q170 q171 q182 q183 q184 q185 q186 q187 q188 q189 q190 q191 W (listed.setIfInBounds 4 true)) Q) [fs40no4] (fs40nfr K2 S2 bx E S b15 b11 ga k ca ev q0 q2 q3 q4 q5 q6 q8 q9 q10 q12 q13 q14 q16 q17 q18 q19 q21 q22 q25 q26 q27 q28 q29 q30 q31 q32 q33 q34 q35 q36 q37 q38 q39 q40 q41 q42 q43 q44 q45 q46 q47 q48 q49 q50 q51 q52 q53 q54 q55 q56 q57 q58 q59 q60 q61 q62 q63 q64 q65 q66 q67 q68 q69 q70 q71 q72 q73 q74 q75 q76 q77 q78 q79 q80 q81 q82 q83 q84 q85 q86 q87 q88 q89 q90 q91 q92 q93 q94 q95 q96 q97 q98 q99 q100 q101 q102 q103 q104 q105 q106 q107 q108 q109 q110 q111 q112 q113 q114 q115 q116 q117 q118 q119 q120 q121 q122 q123 q124 q125 q126 q127 q128 q129 q130 q131 q132 q133 q134 q135 q136 q137 q138 q139 q140 q141 q142 q143 q144 q145 q146 q147 q148 q149 q150 q151 q152 q153 q154 q155 q156 q157 q158 q159 q160 q161 q162 q163 q164 q165 q166 q167 q168 q169 q170 q171 q182 q183 q184 q185 q186 q187 q188 q189 q190 q191 y23 y24 y172 y173 y174 y175 y176 y177 y178 y179 y180 y181) w := by
  obtain ⟨hn1, hdep⟩ := fs40ndep hi fs40no4 rfl
  obtain ⟨hlt, hno⟩ := cha_no hn1
  have HH : Hid _ := h
  clear h hdep hn1
  unfold fs40nfr fs40no4
  go_wp2_with fail
  have h := HH.out
  have hb := Below.refl w.heap.size w
  refine ⟨_, _, _, _, _, _, _, _, _, _, _, _, rfl, {
    size := by simpa using h.size
    bel := h.bel.trans (hb.mono h.bel.size)
    p0 := fun hl => h.p0 (by rwa [Lb_ne (by omega)] at hl)
    p1 := fun hl => h.p1 (by rwa [Lb_ne (by omega)] at hl)
    p2 := fun hl => h.p2 (by rwa [Lb_ne (by omega)] at hl)
    p3 := fun hl => (h.p3 (by rwa [Lb_ne (by omega)] at hl)).later hb
    p4 := fun _ => rfl
    p5 := fun hl => (h.p5 (by rwa [Lb_ne (by omega)] at hl)).later hb
    p6 := fun hl => h.p6 (by rwa [Lb_ne (by omega)] at hl)
    p7 := fun hl => h.p7 (by rwa [Lb_ne (by omega)] at hl)
    p8 := fun hl => h.p8 (by rwa [Lb_ne (by omega)] at hl)
    p9 := fun hl => h.p9 (by rwa [Lb_ne (by omega)] at hl)
    p10 := fun hl => h.p10 (by rwa [Lb_ne (by omega)] at hl)
    p11 := fun hl => h.p11 (by rwa [Lb_ne (by omega)] at hl) }⟩
set_option maxRecDepth 10000 in
set_option maxHeartbeats 2000000 in
theorem fs40ns5 {K2 S2 bx E S : List Int} {b15 b11 ga k ca : Nat} {ev q0 q2 q3 q4 q5 q6 q8 q9 q10 q12 q13 q14 q16 q17 q18 q19 q21 q22 q25 q26 q27 q28 q29 q30 q31 q32 q33 q34 q35 q36 q37 q38 q39 q40 q41 q42 q43 q44 q45 q46 q47 q48 q49 q50 q51 q52 q53 q54 q55 q56 q57 q58 q59 q60 q61 q62 q63 q64 q65 q66 q67 q68 q69 q70 q71 q72 q73 q74 q75 q76 q77 q78 q79 q80 q81 q82 q83 q84 q85 q86 q87 q88 q89 q90 q91 q92 q93 q94 q95 q96 q97 q98 q99 q100 q101 q102 q103 q104 q105 q106 q107 q108 q109 q110 q111 q112 q113 q114 q115 q116 q117 q118 q119 q120 q121 q122 q123 q124 q125 q126 q127 q128 q129 q130 q131 q132 q133 q134 q135 q136 q137 q138 q139 q140 q141 q142 q143 q144 q145 q146 q147 q148 q149 q150 q151 q152 q153 q154 q155 q156 q157 q158 q159 q160 q161 q162 q163 q164 q165 q166 q167 q168 q169 q170 q171 q182 q183 q184 q185 q186 q187 q188 q189 q190 q191 : Value} {W : World} {listed : Array Bool} {w : World} {y23 y24 y172 y173 y174 y175 y176 y177 y178 y179 y180 y181 : Value} {Q : Exit → Act → World → Prop} (h : fs40nIn K2 S2 bx E S b15 b11 ga k ca ev q0 q2 q3 q4 q5 q6 q8 q9 q10 q12 q13 q14 q16 q17 q18 q19 q21 q22 q25 q26 q27 q28 q29 q30 q31 q32 q33 q34 q35 q36 q37 q38 q39 q40 q41 q42 q43 q44 q45 q46 q47 q48 q49 q50 q51 q52 q53 q54 q55 q56 q57 q58 q59 q60 q61 q62 q63 q64 q65 q66 q67 q68 q69 q70 q71 q72 q73 q74 q75 q76 q77 q78 q79 q80 q81 q82 q83 q84 q85 q86 q87 q88 q89 q90 q91 q92 q93 q94 q95 q96 q97 q98 q99 q100 q101 q102 q103 q104 q105 q106 q107 q108 q109 q110 q111 q112 q113 q114 q115 q116 q117 q118 q119 q120 q121 q122 q123 q124 q125 q126 q127 q128 q129 q130 q131 q132 q133 q134 q135 q136 q137 q138 q139 q140 q141 q142 q143 q144 q145 q146 q147 q148 q149 q150 q151 q152 q153 q154 q155 q156 q157 q158 q159 q160 q161 q162 q163 q164 q165 q166 q167 q168 q169 q170 q171 q182 q183 q184 q185 q186 q187 q188 q189 q190 q191 W listed w y23 y24 y172 y173 y174 y175 y176 y177 y178 y179 y180 y181) (hi : 5 ∈ Region.ready .any fs40nops listed) (hcon : ∀ w, Below W.heap.size W w → Calls Tryd.prog 29 #[ev] w fun e w' => ∃ v, e = .returned v ∧ OwnN .u8 5 w.heap.size w' v E ∧ Below w.heap.size w w') :
    wpList Tryd.prog fs40nops (atEnd (fs40nInv K2 S2 bx E S b15 b11 ga k ca ev q0 q2 q3 q4 q5 q6 q8 q9 q10 q12 q13 q14 q16 q17 q18 q19 q21 q22 q25 q26 q27 q28 q29 q30 q31 q32 q33 q34 q35 q36 q37 q38 q39 q40 q41 q42 q43 q44 q45 q46 q47 q48 q49 q50 q51 q52 q53 q54 q55 q56 q57 q58 q59 q60 q61 q62 q63 q64 q65 q66 q67 q68 q69 q70 q71 q72 q73 q74 q75 q76 q77 q78 q79 q80 q81 q82 q83 q84 q85 q86 q87 q88 q89 q90 q91 q92 q93 q94 q95 q96 q97 q98 q99 q100 q101 q102 q103 q104 q105 q106 q107 q108 q109 q110 q111 q112 q113 q114 q115 q116 q117 q118 q119 q120 q121 q122 q123 q124 q125 q126 q127 q128 q129 q130 q131 q132 q133 q134 q135 q136 q137 q138 q139 q140 q141 q142 q143 q144 q145 q146 q147 q148 q149 q150 q151 q152 q153 q154 q155 q156 q157 q158 q159 q160 q161 q162 q163 q164 q165 q166 q167 q168 q169 q170 q171 q182 q183 q184 q185 q186 q187 q188 q189 q190 q191 W (listed.setIfInBounds 5 true)) Q) [fs40no5] (fs40nfr K2 S2 bx E S b15 b11 ga k ca ev q0 q2 q3 q4 q5 q6 q8 q9 q10 q12 q13 q14 q16 q17 q18 q19 q21 q22 q25 q26 q27 q28 q29 q30 q31 q32 q33 q34 q35 q36 q37 q38 q39 q40 q41 q42 q43 q44 q45 q46 q47 q48 q49 q50 q51 q52 q53 q54 q55 q56 q57 q58 q59 q60 q61 q62 q63 q64 q65 q66 q67 q68 q69 q70 q71 q72 q73 q74 q75 q76 q77 q78 q79 q80 q81 q82 q83 q84 q85 q86 q87 q88 q89 q90 q91 q92 q93 q94 q95 q96 q97 q98 q99 q100 q101 q102 q103 q104 q105 q106 q107 q108 q109 q110 q111 q112 q113 q114 q115 q116 q117 q118 q119 q120 q121 q122 q123 q124 q125 q126 q127 q128 q129 q130 q131 q132 q133 q134 q135 q136 q137 q138 q139 q140 q141 q142 q143 q144 q145 q146 q147 q148 q149 q150 q151 q152 q153 q154 q155 q156 q157 q158 q159 q160 q161 q162 q163 q164 q165 q166 q167 q168 q169 q170 q171 q182 q183 q184 q185 q186 q187 q188 q189 q190 q191 y23 y24 y172 y173 y174 y175 y176 y177 y178 y179 y180 y181) w := by
  obtain ⟨hn1, hdep⟩ := fs40ndep hi fs40no5 rfl
  obtain ⟨hlt, hno⟩ := cha_no hn1
  have l4 : Lb listed 4 = true := hdep { on := 4, ground := Ground.data } (by unfold fs40no5; simp) rfl
  obtain rfl := h.p4 l4
  have HC : Hid _ := hcon w  h.bel 
  have HH : Hid _ := h
  clear h hdep hn1 hcon
  unfold fs40nfr fs40no5
  go_wp2_with fail
  refine Calls.mono HC.out ?_
  rintro e w' ⟨v, rfl, ho, hb⟩
  go_wp2_with fail
  have h := HH.out
  refine ⟨_, _, _, _, _, _, _, _, _, _, _, _, rfl, {
    size := by simpa using h.size
    bel := h.bel.trans (hb.mono h.bel.size)
    p0 := fun hl => h.p0 (by rwa [Lb_ne (by omega)] at hl)
    p1 := fun hl => h.p1 (by rwa [Lb_ne (by omega)] at hl)
    p2 := fun hl => h.p2 (by rwa [Lb_ne (by omega)] at hl)
    p3 := fun hl => (h.p3 (by rwa [Lb_ne (by omega)] at hl)).later hb
    p4 := fun hl => h.p4 (by rwa [Lb_ne (by omega)] at hl)
    p5 := fun _ => ho.mono h.bel.size
    p6 := fun hl => h.p6 (by rwa [Lb_ne (by omega)] at hl)
    p7 := fun hl => h.p7 (by rwa [Lb_ne (by omega)] at hl)
    p8 := fun hl => h.p8 (by rwa [Lb_ne (by omega)] at hl)
    p9 := fun hl => h.p9 (by rwa [Lb_ne (by omega)] at hl)
    p10 := fun hl => h.p10 (by rwa [Lb_ne (by omega)] at hl)
    p11 := fun hl => h.p11 (by rwa [Lb_ne (by omega)] at hl) }⟩
set_option maxRecDepth 10000 in
set_option maxHeartbeats 2000000 in
theorem fs40ns6 {K2 S2 bx E S : List Int} {b15 b11 ga k ca : Nat} {ev q0 q2 q3 q4 q5 q6 q8 q9 q10 q12 q13 q14 q16 q17 q18 q19 q21 q22 q25 q26 q27 q28 q29 q30 q31 q32 q33 q34 q35 q36 q37 q38 q39 q40 q41 q42 q43 q44 q45 q46 q47 q48 q49 q50 q51 q52 q53 q54 q55 q56 q57 q58 q59 q60 q61 q62 q63 q64 q65 q66 q67 q68 q69 q70 q71 q72 q73 q74 q75 q76 q77 q78 q79 q80 q81 q82 q83 q84 q85 q86 q87 q88 q89 q90 q91 q92 q93 q94 q95 q96 q97 q98 q99 q100 q101 q102 q103 q104 q105 q106 q107 q108 q109 q110 q111 q112 q113 q114 q115 q116 q117 q118 q119 q120 q121 q122 q123 q124 q125 q126 q127 q128 q129 q130 q131 q132 q133 q134 q135 q136 q137 q138 q139 q140 q141 q142 q143 q144 q145 q146 q147 q148 q149 q150 q151 q152 q153 q154 q155 q156 q157 q158 q159 q160 q161 q162 q163 q164 q165 q166 q167 q168 q169 q170 q171 q182 q183 q184 q185 q186 q187 q188 q189 q190 q191 : Value} {W : World} {listed : Array Bool} {w : World} {y23 y24 y172 y173 y174 y175 y176 y177 y178 y179 y180 y181 : Value} {Q : Exit → Act → World → Prop} (h : fs40nIn K2 S2 bx E S b15 b11 ga k ca ev q0 q2 q3 q4 q5 q6 q8 q9 q10 q12 q13 q14 q16 q17 q18 q19 q21 q22 q25 q26 q27 q28 q29 q30 q31 q32 q33 q34 q35 q36 q37 q38 q39 q40 q41 q42 q43 q44 q45 q46 q47 q48 q49 q50 q51 q52 q53 q54 q55 q56 q57 q58 q59 q60 q61 q62 q63 q64 q65 q66 q67 q68 q69 q70 q71 q72 q73 q74 q75 q76 q77 q78 q79 q80 q81 q82 q83 q84 q85 q86 q87 q88 q89 q90 q91 q92 q93 q94 q95 q96 q97 q98 q99 q100 q101 q102 q103 q104 q105 q106 q107 q108 q109 q110 q111 q112 q113 q114 q115 q116 q117 q118 q119 q120 q121 q122 q123 q124 q125 q126 q127 q128 q129 q130 q131 q132 q133 q134 q135 q136 q137 q138 q139 q140 q141 q142 q143 q144 q145 q146 q147 q148 q149 q150 q151 q152 q153 q154 q155 q156 q157 q158 q159 q160 q161 q162 q163 q164 q165 q166 q167 q168 q169 q170 q171 q182 q183 q184 q185 q186 q187 q188 q189 q190 q191 W listed w y23 y24 y172 y173 y174 y175 y176 y177 y178 y179 y180 y181) (hi : 6 ∈ Region.ready .any fs40nops listed) (hcon : ∀ w y176 y178, Below W.heap.size W w → OwnN .u8 5 W.heap.size w y176 bx → OwnN .u8 5 W.heap.size w y178 E → Calls Tryd.prog 16 #[.agg (Iv .u8 K2), .agg (Iv .u8 S2), y176, y178] w fun e w' => e = .returned (.tuple #[.slice none 0 0, .bool false]) ∧ Below w.heap.size w w') :
    wpList Tryd.prog fs40nops (atEnd (fs40nInv K2 S2 bx E S b15 b11 ga k ca ev q0 q2 q3 q4 q5 q6 q8 q9 q10 q12 q13 q14 q16 q17 q18 q19 q21 q22 q25 q26 q27 q28 q29 q30 q31 q32 q33 q34 q35 q36 q37 q38 q39 q40 q41 q42 q43 q44 q45 q46 q47 q48 q49 q50 q51 q52 q53 q54 q55 q56 q57 q58 q59 q60 q61 q62 q63 q64 q65 q66 q67 q68 q69 q70 q71 q72 q73 q74 q75 q76 q77 q78 q79 q80 q81 q82 q83 q84 q85 q86 q87 q88 q89 q90 q91 q92 q93 q94 q95 q96 q97 q98 q99 q100 q101 q102 q103 q104 q105 q106 q107 q108 q109 q110 q111 q112 q113 q114 q115 q116 q117 q118 q119 q120 q121 q122 q123 q124 q125 q126 q127 q128 q129 q130 q131 q132 q133 q134 q135 q136 q137 q138 q139 q140 q141 q142 q143 q144 q145 q146 q147 q148 q149 q150 q151 q152 q153 q154 q155 q156 q157 q158 q159 q160 q161 q162 q163 q164 q165 q166 q167 q168 q169 q170 q171 q182 q183 q184 q185 q186 q187 q188 q189 q190 q191 W (listed.setIfInBounds 6 true)) Q) [fs40no6] (fs40nfr K2 S2 bx E S b15 b11 ga k ca ev q0 q2 q3 q4 q5 q6 q8 q9 q10 q12 q13 q14 q16 q17 q18 q19 q21 q22 q25 q26 q27 q28 q29 q30 q31 q32 q33 q34 q35 q36 q37 q38 q39 q40 q41 q42 q43 q44 q45 q46 q47 q48 q49 q50 q51 q52 q53 q54 q55 q56 q57 q58 q59 q60 q61 q62 q63 q64 q65 q66 q67 q68 q69 q70 q71 q72 q73 q74 q75 q76 q77 q78 q79 q80 q81 q82 q83 q84 q85 q86 q87 q88 q89 q90 q91 q92 q93 q94 q95 q96 q97 q98 q99 q100 q101 q102 q103 q104 q105 q106 q107 q108 q109 q110 q111 q112 q113 q114 q115 q116 q117 q118 q119 q120 q121 q122 q123 q124 q125 q126 q127 q128 q129 q130 q131 q132 q133 q134 q135 q136 q137 q138 q139 q140 q141 q142 q143 q144 q145 q146 q147 q148 q149 q150 q151 q152 q153 q154 q155 q156 q157 q158 q159 q160 q161 q162 q163 q164 q165 q166 q167 q168 q169 q170 q171 q182 q183 q184 q185 q186 q187 q188 q189 q190 q191 y23 y24 y172 y173 y174 y175 y176 y177 y178 y179 y180 y181) w := by
  obtain ⟨hn1, hdep⟩ := fs40ndep hi fs40no6 rfl
  obtain ⟨hlt, hno⟩ := cha_no hn1
  have l0 : Lb listed 0 = true := hdep { on := 0, ground := Ground.data } (by unfold fs40no6; simp) rfl
  obtain rfl := h.p0 l0
  have l1 : Lb listed 1 = true := hdep { on := 1, ground := Ground.data } (by unfold fs40no6; simp) rfl
  obtain rfl := h.p1 l1
  have l3 : Lb listed 3 = true := hdep { on := 3, ground := Ground.data } (by unfold fs40no6; simp) rfl
  have o3 := h.p3 l3
  have l5 : Lb listed 5 = true := hdep { on := 5, ground := Ground.data } (by unfold fs40no6; simp) rfl
  have o5 := h.p5 l5
  have HC : Hid _ := hcon w _ _ h.bel o3 o5
  have HH : Hid _ := h
  clear h hdep hn1 hcon
  unfold fs40nfr fs40no6
  go_wp2_with fail
  refine Calls.mono HC.out ?_
  rintro e w' ⟨rfl, hb⟩
  go_wp2_with fail
  have h := HH.out
  refine ⟨_, _, _, _, _, _, _, _, _, _, _, _, rfl, {
    size := by simpa using h.size
    bel := h.bel.trans (hb.mono h.bel.size)
    p0 := fun hl => h.p0 (by rwa [Lb_ne (by omega)] at hl)
    p1 := fun hl => h.p1 (by rwa [Lb_ne (by omega)] at hl)
    p2 := fun hl => h.p2 (by rwa [Lb_ne (by omega)] at hl)
    p3 := fun hl => (h.p3 (by rwa [Lb_ne (by omega)] at hl)).later hb
    p4 := fun hl => h.p4 (by rwa [Lb_ne (by omega)] at hl)
    p5 := fun hl => (h.p5 (by rwa [Lb_ne (by omega)] at hl)).later hb
    p6 := fun _ => rfl
    p7 := fun hl => h.p7 (by rwa [Lb_ne (by omega)] at hl)
    p8 := fun hl => h.p8 (by rwa [Lb_ne (by omega)] at hl)
    p9 := fun hl => h.p9 (by rwa [Lb_ne (by omega)] at hl)
    p10 := fun hl => h.p10 (by rwa [Lb_ne (by omega)] at hl)
    p11 := fun hl => h.p11 (by rwa [Lb_ne (by omega)] at hl) }⟩
set_option maxRecDepth 10000 in
set_option maxHeartbeats 2000000 in
theorem fs40ns7 {K2 S2 bx E S : List Int} {b15 b11 ga k ca : Nat} {ev q0 q2 q3 q4 q5 q6 q8 q9 q10 q12 q13 q14 q16 q17 q18 q19 q21 q22 q25 q26 q27 q28 q29 q30 q31 q32 q33 q34 q35 q36 q37 q38 q39 q40 q41 q42 q43 q44 q45 q46 q47 q48 q49 q50 q51 q52 q53 q54 q55 q56 q57 q58 q59 q60 q61 q62 q63 q64 q65 q66 q67 q68 q69 q70 q71 q72 q73 q74 q75 q76 q77 q78 q79 q80 q81 q82 q83 q84 q85 q86 q87 q88 q89 q90 q91 q92 q93 q94 q95 q96 q97 q98 q99 q100 q101 q102 q103 q104 q105 q106 q107 q108 q109 q110 q111 q112 q113 q114 q115 q116 q117 q118 q119 q120 q121 q122 q123 q124 q125 q126 q127 q128 q129 q130 q131 q132 q133 q134 q135 q136 q137 q138 q139 q140 q141 q142 q143 q144 q145 q146 q147 q148 q149 q150 q151 q152 q153 q154 q155 q156 q157 q158 q159 q160 q161 q162 q163 q164 q165 q166 q167 q168 q169 q170 q171 q182 q183 q184 q185 q186 q187 q188 q189 q190 q191 : Value} {W : World} {listed : Array Bool} {w : World} {y23 y24 y172 y173 y174 y175 y176 y177 y178 y179 y180 y181 : Value} {Q : Exit → Act → World → Prop} (h : fs40nIn K2 S2 bx E S b15 b11 ga k ca ev q0 q2 q3 q4 q5 q6 q8 q9 q10 q12 q13 q14 q16 q17 q18 q19 q21 q22 q25 q26 q27 q28 q29 q30 q31 q32 q33 q34 q35 q36 q37 q38 q39 q40 q41 q42 q43 q44 q45 q46 q47 q48 q49 q50 q51 q52 q53 q54 q55 q56 q57 q58 q59 q60 q61 q62 q63 q64 q65 q66 q67 q68 q69 q70 q71 q72 q73 q74 q75 q76 q77 q78 q79 q80 q81 q82 q83 q84 q85 q86 q87 q88 q89 q90 q91 q92 q93 q94 q95 q96 q97 q98 q99 q100 q101 q102 q103 q104 q105 q106 q107 q108 q109 q110 q111 q112 q113 q114 q115 q116 q117 q118 q119 q120 q121 q122 q123 q124 q125 q126 q127 q128 q129 q130 q131 q132 q133 q134 q135 q136 q137 q138 q139 q140 q141 q142 q143 q144 q145 q146 q147 q148 q149 q150 q151 q152 q153 q154 q155 q156 q157 q158 q159 q160 q161 q162 q163 q164 q165 q166 q167 q168 q169 q170 q171 q182 q183 q184 q185 q186 q187 q188 q189 q190 q191 W listed w y23 y24 y172 y173 y174 y175 y176 y177 y178 y179 y180 y181) (hi : 7 ∈ Region.ready .any fs40nops listed) :
    wpList Tryd.prog fs40nops (atEnd (fs40nInv K2 S2 bx E S b15 b11 ga k ca ev q0 q2 q3 q4 q5 q6 q8 q9 q10 q12 q13 q14 q16 q17 q18 q19 q21 q22 q25 q26 q27 q28 q29 q30 q31 q32 q33 q34 q35 q36 q37 q38 q39 q40 q41 q42 q43 q44 q45 q46 q47 q48 q49 q50 q51 q52 q53 q54 q55 q56 q57 q58 q59 q60 q61 q62 q63 q64 q65 q66 q67 q68 q69 q70 q71 q72 q73 q74 q75 q76 q77 q78 q79 q80 q81 q82 q83 q84 q85 q86 q87 q88 q89 q90 q91 q92 q93 q94 q95 q96 q97 q98 q99 q100 q101 q102 q103 q104 q105 q106 q107 q108 q109 q110 q111 q112 q113 q114 q115 q116 q117 q118 q119 q120 q121 q122 q123 q124 q125 q126 q127 q128 q129 q130 q131 q132 q133 q134 q135 q136 q137 q138 q139 q140 q141 q142 q143 q144 q145 q146 q147 q148 q149 q150 q151 q152 q153 q154 q155 q156 q157 q158 q159 q160 q161 q162 q163 q164 q165 q166 q167 q168 q169 q170 q171 q182 q183 q184 q185 q186 q187 q188 q189 q190 q191 W (listed.setIfInBounds 7 true)) Q) [fs40no7] (fs40nfr K2 S2 bx E S b15 b11 ga k ca ev q0 q2 q3 q4 q5 q6 q8 q9 q10 q12 q13 q14 q16 q17 q18 q19 q21 q22 q25 q26 q27 q28 q29 q30 q31 q32 q33 q34 q35 q36 q37 q38 q39 q40 q41 q42 q43 q44 q45 q46 q47 q48 q49 q50 q51 q52 q53 q54 q55 q56 q57 q58 q59 q60 q61 q62 q63 q64 q65 q66 q67 q68 q69 q70 q71 q72 q73 q74 q75 q76 q77 q78 q79 q80 q81 q82 q83 q84 q85 q86 q87 q88 q89 q90 q91 q92 q93 q94 q95 q96 q97 q98 q99 q100 q101 q102 q103 q104 q105 q106 q107 q108 q109 q110 q111 q112 q113 q114 q115 q116 q117 q118 q119 q120 q121 q122 q123 q124 q125 q126 q127 q128 q129 q130 q131 q132 q133 q134 q135 q136 q137 q138 q139 q140 q141 q142 q143 q144 q145 q146 q147 q148 q149 q150 q151 q152 q153 q154 q155 q156 q157 q158 q159 q160 q161 q162 q163 q164 q165 q166 q167 q168 q169 q170 q171 q182 q183 q184 q185 q186 q187 q188 q189 q190 q191 y23 y24 y172 y173 y174 y175 y176 y177 y178 y179 y180 y181) w := by
  obtain ⟨hn1, hdep⟩ := fs40ndep hi fs40no7 rfl
  obtain ⟨hlt, hno⟩ := cha_no hn1
  have l6 : Lb listed 6 = true := hdep { on := 6, ground := Ground.data } (by unfold fs40no7; simp) rfl
  obtain rfl := h.p6 l6
  have HH : Hid _ := h
  clear h hdep hn1
  unfold fs40nfr fs40no7
  go_wp2_with fail
  have h := HH.out
  have hb := Below.refl w.heap.size w
  refine ⟨_, _, _, _, _, _, _, _, _, _, _, _, rfl, {
    size := by simpa using h.size
    bel := h.bel.trans (hb.mono h.bel.size)
    p0 := fun hl => h.p0 (by rwa [Lb_ne (by omega)] at hl)
    p1 := fun hl => h.p1 (by rwa [Lb_ne (by omega)] at hl)
    p2 := fun hl => h.p2 (by rwa [Lb_ne (by omega)] at hl)
    p3 := fun hl => (h.p3 (by rwa [Lb_ne (by omega)] at hl)).later hb
    p4 := fun hl => h.p4 (by rwa [Lb_ne (by omega)] at hl)
    p5 := fun hl => (h.p5 (by rwa [Lb_ne (by omega)] at hl)).later hb
    p6 := fun hl => h.p6 (by rwa [Lb_ne (by omega)] at hl)
    p7 := fun _ => rfl
    p8 := fun hl => h.p8 (by rwa [Lb_ne (by omega)] at hl)
    p9 := fun hl => h.p9 (by rwa [Lb_ne (by omega)] at hl)
    p10 := fun hl => h.p10 (by rwa [Lb_ne (by omega)] at hl)
    p11 := fun hl => h.p11 (by rwa [Lb_ne (by omega)] at hl) }⟩
set_option maxRecDepth 10000 in
set_option maxHeartbeats 2000000 in
theorem fs40ns8 {K2 S2 bx E S : List Int} {b15 b11 ga k ca : Nat} {ev q0 q2 q3 q4 q5 q6 q8 q9 q10 q12 q13 q14 q16 q17 q18 q19 q21 q22 q25 q26 q27 q28 q29 q30 q31 q32 q33 q34 q35 q36 q37 q38 q39 q40 q41 q42 q43 q44 q45 q46 q47 q48 q49 q50 q51 q52 q53 q54 q55 q56 q57 q58 q59 q60 q61 q62 q63 q64 q65 q66 q67 q68 q69 q70 q71 q72 q73 q74 q75 q76 q77 q78 q79 q80 q81 q82 q83 q84 q85 q86 q87 q88 q89 q90 q91 q92 q93 q94 q95 q96 q97 q98 q99 q100 q101 q102 q103 q104 q105 q106 q107 q108 q109 q110 q111 q112 q113 q114 q115 q116 q117 q118 q119 q120 q121 q122 q123 q124 q125 q126 q127 q128 q129 q130 q131 q132 q133 q134 q135 q136 q137 q138 q139 q140 q141 q142 q143 q144 q145 q146 q147 q148 q149 q150 q151 q152 q153 q154 q155 q156 q157 q158 q159 q160 q161 q162 q163 q164 q165 q166 q167 q168 q169 q170 q171 q182 q183 q184 q185 q186 q187 q188 q189 q190 q191 : Value} {W : World} {listed : Array Bool} {w : World} {y23 y24 y172 y173 y174 y175 y176 y177 y178 y179 y180 y181 : Value} {Q : Exit → Act → World → Prop} (h : fs40nIn K2 S2 bx E S b15 b11 ga k ca ev q0 q2 q3 q4 q5 q6 q8 q9 q10 q12 q13 q14 q16 q17 q18 q19 q21 q22 q25 q26 q27 q28 q29 q30 q31 q32 q33 q34 q35 q36 q37 q38 q39 q40 q41 q42 q43 q44 q45 q46 q47 q48 q49 q50 q51 q52 q53 q54 q55 q56 q57 q58 q59 q60 q61 q62 q63 q64 q65 q66 q67 q68 q69 q70 q71 q72 q73 q74 q75 q76 q77 q78 q79 q80 q81 q82 q83 q84 q85 q86 q87 q88 q89 q90 q91 q92 q93 q94 q95 q96 q97 q98 q99 q100 q101 q102 q103 q104 q105 q106 q107 q108 q109 q110 q111 q112 q113 q114 q115 q116 q117 q118 q119 q120 q121 q122 q123 q124 q125 q126 q127 q128 q129 q130 q131 q132 q133 q134 q135 q136 q137 q138 q139 q140 q141 q142 q143 q144 q145 q146 q147 q148 q149 q150 q151 q152 q153 q154 q155 q156 q157 q158 q159 q160 q161 q162 q163 q164 q165 q166 q167 q168 q169 q170 q171 q182 q183 q184 q185 q186 q187 q188 q189 q190 q191 W listed w y23 y24 y172 y173 y174 y175 y176 y177 y178 y179 y180 y181) (hi : 8 ∈ Region.ready .any fs40nops listed) :
    wpList Tryd.prog fs40nops (atEnd (fs40nInv K2 S2 bx E S b15 b11 ga k ca ev q0 q2 q3 q4 q5 q6 q8 q9 q10 q12 q13 q14 q16 q17 q18 q19 q21 q22 q25 q26 q27 q28 q29 q30 q31 q32 q33 q34 q35 q36 q37 q38 q39 q40 q41 q42 q43 q44 q45 q46 q47 q48 q49 q50 q51 q52 q53 q54 q55 q56 q57 q58 q59 q60 q61 q62 q63 q64 q65 q66 q67 q68 q69 q70 q71 q72 q73 q74 q75 q76 q77 q78 q79 q80 q81 q82 q83 q84 q85 q86 q87 q88 q89 q90 q91 q92 q93 q94 q95 q96 q97 q98 q99 q100 q101 q102 q103 q104 q105 q106 q107 q108 q109 q110 q111 q112 q113 q114 q115 q116 q117 q118 q119 q120 q121 q122 q123 q124 q125 q126 q127 q128 q129 q130 q131 q132 q133 q134 q135 q136 q137 q138 q139 q140 q141 q142 q143 q144 q145 q146 q147 q148 q149 q150 q151 q152 q153 q154 q155 q156 q157 q158 q159 q160 q161 q162 q163 q164 q165 q166 q167 q168 q169 q170 q171 q182 q183 q184 q185 q186 q187 q188 q189 q190 q191 W (listed.setIfInBounds 8 true)) Q) [fs40no8] (fs40nfr K2 S2 bx E S b15 b11 ga k ca ev q0 q2 q3 q4 q5 q6 q8 q9 q10 q12 q13 q14 q16 q17 q18 q19 q21 q22 q25 q26 q27 q28 q29 q30 q31 q32 q33 q34 q35 q36 q37 q38 q39 q40 q41 q42 q43 q44 q45 q46 q47 q48 q49 q50 q51 q52 q53 q54 q55 q56 q57 q58 q59 q60 q61 q62 q63 q64 q65 q66 q67 q68 q69 q70 q71 q72 q73 q74 q75 q76 q77 q78 q79 q80 q81 q82 q83 q84 q85 q86 q87 q88 q89 q90 q91 q92 q93 q94 q95 q96 q97 q98 q99 q100 q101 q102 q103 q104 q105 q106 q107 q108 q109 q110 q111 q112 q113 q114 q115 q116 q117 q118 q119 q120 q121 q122 q123 q124 q125 q126 q127 q128 q129 q130 q131 q132 q133 q134 q135 q136 q137 q138 q139 q140 q141 q142 q143 q144 q145 q146 q147 q148 q149 q150 q151 q152 q153 q154 q155 q156 q157 q158 q159 q160 q161 q162 q163 q164 q165 q166 q167 q168 q169 q170 q171 q182 q183 q184 q185 q186 q187 q188 q189 q190 q191 y23 y24 y172 y173 y174 y175 y176 y177 y178 y179 y180 y181) w := by
  obtain ⟨hn1, hdep⟩ := fs40ndep hi fs40no8 rfl
  obtain ⟨hlt, hno⟩ := cha_no hn1
  have l7 : Lb listed 7 = true := hdep { on := 7, ground := Ground.data } (by unfold fs40no8; simp) rfl
  obtain rfl := h.p7 l7
  have HH : Hid _ := h
  clear h hdep hn1
  unfold fs40nfr fs40no8
  go_wp2_with fail
  have h := HH.out
  have hb := Below.refl w.heap.size w
  refine ⟨_, _, _, _, _, _, _, _, _, _, _, _, rfl, {
    size := by simpa using h.size
    bel := h.bel.trans (hb.mono h.bel.size)
    p0 := fun hl => h.p0 (by rwa [Lb_ne (by omega)] at hl)
    p1 := fun hl => h.p1 (by rwa [Lb_ne (by omega)] at hl)
    p2 := fun hl => h.p2 (by rwa [Lb_ne (by omega)] at hl)
    p3 := fun hl => (h.p3 (by rwa [Lb_ne (by omega)] at hl)).later hb
    p4 := fun hl => h.p4 (by rwa [Lb_ne (by omega)] at hl)
    p5 := fun hl => (h.p5 (by rwa [Lb_ne (by omega)] at hl)).later hb
    p6 := fun hl => h.p6 (by rwa [Lb_ne (by omega)] at hl)
    p7 := fun hl => h.p7 (by rwa [Lb_ne (by omega)] at hl)
    p8 := fun _ => rfl
    p9 := fun hl => h.p9 (by rwa [Lb_ne (by omega)] at hl)
    p10 := fun hl => h.p10 (by rwa [Lb_ne (by omega)] at hl)
    p11 := fun hl => h.p11 (by rwa [Lb_ne (by omega)] at hl) }⟩
set_option maxRecDepth 10000 in
set_option maxHeartbeats 2000000 in
theorem fs40ns9 {K2 S2 bx E S : List Int} {b15 b11 ga k ca : Nat} {ev q0 q2 q3 q4 q5 q6 q8 q9 q10 q12 q13 q14 q16 q17 q18 q19 q21 q22 q25 q26 q27 q28 q29 q30 q31 q32 q33 q34 q35 q36 q37 q38 q39 q40 q41 q42 q43 q44 q45 q46 q47 q48 q49 q50 q51 q52 q53 q54 q55 q56 q57 q58 q59 q60 q61 q62 q63 q64 q65 q66 q67 q68 q69 q70 q71 q72 q73 q74 q75 q76 q77 q78 q79 q80 q81 q82 q83 q84 q85 q86 q87 q88 q89 q90 q91 q92 q93 q94 q95 q96 q97 q98 q99 q100 q101 q102 q103 q104 q105 q106 q107 q108 q109 q110 q111 q112 q113 q114 q115 q116 q117 q118 q119 q120 q121 q122 q123 q124 q125 q126 q127 q128 q129 q130 q131 q132 q133 q134 q135 q136 q137 q138 q139 q140 q141 q142 q143 q144 q145 q146 q147 q148 q149 q150 q151 q152 q153 q154 q155 q156 q157 q158 q159 q160 q161 q162 q163 q164 q165 q166 q167 q168 q169 q170 q171 q182 q183 q184 q185 q186 q187 q188 q189 q190 q191 : Value} {W : World} {listed : Array Bool} {w : World} {y23 y24 y172 y173 y174 y175 y176 y177 y178 y179 y180 y181 : Value} {Q : Exit → Act → World → Prop} (h : fs40nIn K2 S2 bx E S b15 b11 ga k ca ev q0 q2 q3 q4 q5 q6 q8 q9 q10 q12 q13 q14 q16 q17 q18 q19 q21 q22 q25 q26 q27 q28 q29 q30 q31 q32 q33 q34 q35 q36 q37 q38 q39 q40 q41 q42 q43 q44 q45 q46 q47 q48 q49 q50 q51 q52 q53 q54 q55 q56 q57 q58 q59 q60 q61 q62 q63 q64 q65 q66 q67 q68 q69 q70 q71 q72 q73 q74 q75 q76 q77 q78 q79 q80 q81 q82 q83 q84 q85 q86 q87 q88 q89 q90 q91 q92 q93 q94 q95 q96 q97 q98 q99 q100 q101 q102 q103 q104 q105 q106 q107 q108 q109 q110 q111 q112 q113 q114 q115 q116 q117 q118 q119 q120 q121 q122 q123 q124 q125 q126 q127 q128 q129 q130 q131 q132 q133 q134 q135 q136 q137 q138 q139 q140 q141 q142 q143 q144 q145 q146 q147 q148 q149 q150 q151 q152 q153 q154 q155 q156 q157 q158 q159 q160 q161 q162 q163 q164 q165 q166 q167 q168 q169 q170 q171 q182 q183 q184 q185 q186 q187 q188 q189 q190 q191 W listed w y23 y24 y172 y173 y174 y175 y176 y177 y178 y179 y180 y181) (hi : 9 ∈ Region.ready .any fs40nops listed) :
    wpList Tryd.prog fs40nops (atEnd (fs40nInv K2 S2 bx E S b15 b11 ga k ca ev q0 q2 q3 q4 q5 q6 q8 q9 q10 q12 q13 q14 q16 q17 q18 q19 q21 q22 q25 q26 q27 q28 q29 q30 q31 q32 q33 q34 q35 q36 q37 q38 q39 q40 q41 q42 q43 q44 q45 q46 q47 q48 q49 q50 q51 q52 q53 q54 q55 q56 q57 q58 q59 q60 q61 q62 q63 q64 q65 q66 q67 q68 q69 q70 q71 q72 q73 q74 q75 q76 q77 q78 q79 q80 q81 q82 q83 q84 q85 q86 q87 q88 q89 q90 q91 q92 q93 q94 q95 q96 q97 q98 q99 q100 q101 q102 q103 q104 q105 q106 q107 q108 q109 q110 q111 q112 q113 q114 q115 q116 q117 q118 q119 q120 q121 q122 q123 q124 q125 q126 q127 q128 q129 q130 q131 q132 q133 q134 q135 q136 q137 q138 q139 q140 q141 q142 q143 q144 q145 q146 q147 q148 q149 q150 q151 q152 q153 q154 q155 q156 q157 q158 q159 q160 q161 q162 q163 q164 q165 q166 q167 q168 q169 q170 q171 q182 q183 q184 q185 q186 q187 q188 q189 q190 q191 W (listed.setIfInBounds 9 true)) Q) [fs40no9] (fs40nfr K2 S2 bx E S b15 b11 ga k ca ev q0 q2 q3 q4 q5 q6 q8 q9 q10 q12 q13 q14 q16 q17 q18 q19 q21 q22 q25 q26 q27 q28 q29 q30 q31 q32 q33 q34 q35 q36 q37 q38 q39 q40 q41 q42 q43 q44 q45 q46 q47 q48 q49 q50 q51 q52 q53 q54 q55 q56 q57 q58 q59 q60 q61 q62 q63 q64 q65 q66 q67 q68 q69 q70 q71 q72 q73 q74 q75 q76 q77 q78 q79 q80 q81 q82 q83 q84 q85 q86 q87 q88 q89 q90 q91 q92 q93 q94 q95 q96 q97 q98 q99 q100 q101 q102 q103 q104 q105 q106 q107 q108 q109 q110 q111 q112 q113 q114 q115 q116 q117 q118 q119 q120 q121 q122 q123 q124 q125 q126 q127 q128 q129 q130 q131 q132 q133 q134 q135 q136 q137 q138 q139 q140 q141 q142 q143 q144 q145 q146 q147 q148 q149 q150 q151 q152 q153 q154 q155 q156 q157 q158 q159 q160 q161 q162 q163 q164 q165 q166 q167 q168 q169 q170 q171 q182 q183 q184 q185 q186 q187 q188 q189 q190 q191 y23 y24 y172 y173 y174 y175 y176 y177 y178 y179 y180 y181) w := by
  obtain ⟨hn1, hdep⟩ := fs40ndep hi fs40no9 rfl
  obtain ⟨hlt, hno⟩ := cha_no hn1
  have l7 : Lb listed 7 = true := hdep { on := 7, ground := Ground.data } (by unfold fs40no9; simp) rfl
  obtain rfl := h.p7 l7
  have HH : Hid _ := h
  clear h hdep hn1
  unfold fs40nfr fs40no9
  go_wp2_with fail
  have h := HH.out
  have hb := Below.refl w.heap.size w
  refine ⟨_, _, _, _, _, _, _, _, _, _, _, _, rfl, {
    size := by simpa using h.size
    bel := h.bel.trans (hb.mono h.bel.size)
    p0 := fun hl => h.p0 (by rwa [Lb_ne (by omega)] at hl)
    p1 := fun hl => h.p1 (by rwa [Lb_ne (by omega)] at hl)
    p2 := fun hl => h.p2 (by rwa [Lb_ne (by omega)] at hl)
    p3 := fun hl => (h.p3 (by rwa [Lb_ne (by omega)] at hl)).later hb
    p4 := fun hl => h.p4 (by rwa [Lb_ne (by omega)] at hl)
    p5 := fun hl => (h.p5 (by rwa [Lb_ne (by omega)] at hl)).later hb
    p6 := fun hl => h.p6 (by rwa [Lb_ne (by omega)] at hl)
    p7 := fun hl => h.p7 (by rwa [Lb_ne (by omega)] at hl)
    p8 := fun hl => h.p8 (by rwa [Lb_ne (by omega)] at hl)
    p9 := fun _ => rfl
    p10 := fun hl => h.p10 (by rwa [Lb_ne (by omega)] at hl)
    p11 := fun hl => h.p11 (by rwa [Lb_ne (by omega)] at hl) }⟩
set_option maxRecDepth 10000 in
set_option maxHeartbeats 2000000 in
theorem fs40ns10 {K2 S2 bx E S : List Int} {b15 b11 ga k ca : Nat} {ev q0 q2 q3 q4 q5 q6 q8 q9 q10 q12 q13 q14 q16 q17 q18 q19 q21 q22 q25 q26 q27 q28 q29 q30 q31 q32 q33 q34 q35 q36 q37 q38 q39 q40 q41 q42 q43 q44 q45 q46 q47 q48 q49 q50 q51 q52 q53 q54 q55 q56 q57 q58 q59 q60 q61 q62 q63 q64 q65 q66 q67 q68 q69 q70 q71 q72 q73 q74 q75 q76 q77 q78 q79 q80 q81 q82 q83 q84 q85 q86 q87 q88 q89 q90 q91 q92 q93 q94 q95 q96 q97 q98 q99 q100 q101 q102 q103 q104 q105 q106 q107 q108 q109 q110 q111 q112 q113 q114 q115 q116 q117 q118 q119 q120 q121 q122 q123 q124 q125 q126 q127 q128 q129 q130 q131 q132 q133 q134 q135 q136 q137 q138 q139 q140 q141 q142 q143 q144 q145 q146 q147 q148 q149 q150 q151 q152 q153 q154 q155 q156 q157 q158 q159 q160 q161 q162 q163 q164 q165 q166 q167 q168 q169 q170 q171 q182 q183 q184 q185 q186 q187 q188 q189 q190 q191 : Value} {W : World} {listed : Array Bool} {w : World} {y23 y24 y172 y173 y174 y175 y176 y177 y178 y179 y180 y181 : Value} {Q : Exit → Act → World → Prop} (h : fs40nIn K2 S2 bx E S b15 b11 ga k ca ev q0 q2 q3 q4 q5 q6 q8 q9 q10 q12 q13 q14 q16 q17 q18 q19 q21 q22 q25 q26 q27 q28 q29 q30 q31 q32 q33 q34 q35 q36 q37 q38 q39 q40 q41 q42 q43 q44 q45 q46 q47 q48 q49 q50 q51 q52 q53 q54 q55 q56 q57 q58 q59 q60 q61 q62 q63 q64 q65 q66 q67 q68 q69 q70 q71 q72 q73 q74 q75 q76 q77 q78 q79 q80 q81 q82 q83 q84 q85 q86 q87 q88 q89 q90 q91 q92 q93 q94 q95 q96 q97 q98 q99 q100 q101 q102 q103 q104 q105 q106 q107 q108 q109 q110 q111 q112 q113 q114 q115 q116 q117 q118 q119 q120 q121 q122 q123 q124 q125 q126 q127 q128 q129 q130 q131 q132 q133 q134 q135 q136 q137 q138 q139 q140 q141 q142 q143 q144 q145 q146 q147 q148 q149 q150 q151 q152 q153 q154 q155 q156 q157 q158 q159 q160 q161 q162 q163 q164 q165 q166 q167 q168 q169 q170 q171 q182 q183 q184 q185 q186 q187 q188 q189 q190 q191 W listed w y23 y24 y172 y173 y174 y175 y176 y177 y178 y179 y180 y181) (hi : 10 ∈ Region.ready .any fs40nops listed) :
    wpList Tryd.prog fs40nops (atEnd (fs40nInv K2 S2 bx E S b15 b11 ga k ca ev q0 q2 q3 q4 q5 q6 q8 q9 q10 q12 q13 q14 q16 q17 q18 q19 q21 q22 q25 q26 q27 q28 q29 q30 q31 q32 q33 q34 q35 q36 q37 q38 q39 q40 q41 q42 q43 q44 q45 q46 q47 q48 q49 q50 q51 q52 q53 q54 q55 q56 q57 q58 q59 q60 q61 q62 q63 q64 q65 q66 q67 q68 q69 q70 q71 q72 q73 q74 q75 q76 q77 q78 q79 q80 q81 q82 q83 q84 q85 q86 q87 q88 q89 q90 q91 q92 q93 q94 q95 q96 q97 q98 q99 q100 q101 q102 q103 q104 q105 q106 q107 q108 q109 q110 q111 q112 q113 q114 q115 q116 q117 q118 q119 q120 q121 q122 q123 q124 q125 q126 q127 q128 q129 q130 q131 q132 q133 q134 q135 q136 q137 q138 q139 q140 q141 q142 q143 q144 q145 q146 q147 q148 q149 q150 q151 q152 q153 q154 q155 q156 q157 q158 q159 q160 q161 q162 q163 q164 q165 q166 q167 q168 q169 q170 q171 q182 q183 q184 q185 q186 q187 q188 q189 q190 q191 W (listed.setIfInBounds 10 true)) Q) [fs40no10] (fs40nfr K2 S2 bx E S b15 b11 ga k ca ev q0 q2 q3 q4 q5 q6 q8 q9 q10 q12 q13 q14 q16 q17 q18 q19 q21 q22 q25 q26 q27 q28 q29 q30 q31 q32 q33 q34 q35 q36 q37 q38 q39 q40 q41 q42 q43 q44 q45 q46 q47 q48 q49 q50 q51 q52 q53 q54 q55 q56 q57 q58 q59 q60 q61 q62 q63 q64 q65 q66 q67 q68 q69 q70 q71 q72 q73 q74 q75 q76 q77 q78 q79 q80 q81 q82 q83 q84 q85 q86 q87 q88 q89 q90 q91 q92 q93 q94 q95 q96 q97 q98 q99 q100 q101 q102 q103 q104 q105 q106 q107 q108 q109 q110 q111 q112 q113 q114 q115 q116 q117 q118 q119 q120 q121 q122 q123 q124 q125 q126 q127 q128 q129 q130 q131 q132 q133 q134 q135 q136 q137 q138 q139 q140 q141 q142 q143 q144 q145 q146 q147 q148 q149 q150 q151 q152 q153 q154 q155 q156 q157 q158 q159 q160 q161 q162 q163 q164 q165 q166 q167 q168 q169 q170 q171 q182 q183 q184 q185 q186 q187 q188 q189 q190 q191 y23 y24 y172 y173 y174 y175 y176 y177 y178 y179 y180 y181) w := by
  obtain ⟨hn1, hdep⟩ := fs40ndep hi fs40no10 rfl
  obtain ⟨hlt, hno⟩ := cha_no hn1
  have l8 : Lb listed 8 = true := hdep { on := 8, ground := Ground.data } (by unfold fs40no10; simp) rfl
  obtain rfl := h.p8 l8
  have HH : Hid _ := h
  clear h hdep hn1
  unfold fs40nfr fs40no10
  go_wp2_with fail
  have h := HH.out
  have hb := Below.refl w.heap.size w
  refine ⟨_, _, _, _, _, _, _, _, _, _, _, _, rfl, {
    size := by simpa using h.size
    bel := h.bel.trans (hb.mono h.bel.size)
    p0 := fun hl => h.p0 (by rwa [Lb_ne (by omega)] at hl)
    p1 := fun hl => h.p1 (by rwa [Lb_ne (by omega)] at hl)
    p2 := fun hl => h.p2 (by rwa [Lb_ne (by omega)] at hl)
    p3 := fun hl => (h.p3 (by rwa [Lb_ne (by omega)] at hl)).later hb
    p4 := fun hl => h.p4 (by rwa [Lb_ne (by omega)] at hl)
    p5 := fun hl => (h.p5 (by rwa [Lb_ne (by omega)] at hl)).later hb
    p6 := fun hl => h.p6 (by rwa [Lb_ne (by omega)] at hl)
    p7 := fun hl => h.p7 (by rwa [Lb_ne (by omega)] at hl)
    p8 := fun hl => h.p8 (by rwa [Lb_ne (by omega)] at hl)
    p9 := fun hl => h.p9 (by rwa [Lb_ne (by omega)] at hl)
    p10 := fun _ => rfl
    p11 := fun hl => h.p11 (by rwa [Lb_ne (by omega)] at hl) }⟩
set_option maxRecDepth 10000 in
set_option maxHeartbeats 2000000 in
theorem fs40ns11 {K2 S2 bx E S : List Int} {b15 b11 ga k ca : Nat} {ev q0 q2 q3 q4 q5 q6 q8 q9 q10 q12 q13 q14 q16 q17 q18 q19 q21 q22 q25 q26 q27 q28 q29 q30 q31 q32 q33 q34 q35 q36 q37 q38 q39 q40 q41 q42 q43 q44 q45 q46 q47 q48 q49 q50 q51 q52 q53 q54 q55 q56 q57 q58 q59 q60 q61 q62 q63 q64 q65 q66 q67 q68 q69 q70 q71 q72 q73 q74 q75 q76 q77 q78 q79 q80 q81 q82 q83 q84 q85 q86 q87 q88 q89 q90 q91 q92 q93 q94 q95 q96 q97 q98 q99 q100 q101 q102 q103 q104 q105 q106 q107 q108 q109 q110 q111 q112 q113 q114 q115 q116 q117 q118 q119 q120 q121 q122 q123 q124 q125 q126 q127 q128 q129 q130 q131 q132 q133 q134 q135 q136 q137 q138 q139 q140 q141 q142 q143 q144 q145 q146 q147 q148 q149 q150 q151 q152 q153 q154 q155 q156 q157 q158 q159 q160 q161 q162 q163 q164 q165 q166 q167 q168 q169 q170 q171 q182 q183 q184 q185 q186 q187 q188 q189 q190 q191 : Value} {W : World} {listed : Array Bool} {w : World} {y23 y24 y172 y173 y174 y175 y176 y177 y178 y179 y180 y181 : Value} {Q : Exit → Act → World → Prop} (h : fs40nIn K2 S2 bx E S b15 b11 ga k ca ev q0 q2 q3 q4 q5 q6 q8 q9 q10 q12 q13 q14 q16 q17 q18 q19 q21 q22 q25 q26 q27 q28 q29 q30 q31 q32 q33 q34 q35 q36 q37 q38 q39 q40 q41 q42 q43 q44 q45 q46 q47 q48 q49 q50 q51 q52 q53 q54 q55 q56 q57 q58 q59 q60 q61 q62 q63 q64 q65 q66 q67 q68 q69 q70 q71 q72 q73 q74 q75 q76 q77 q78 q79 q80 q81 q82 q83 q84 q85 q86 q87 q88 q89 q90 q91 q92 q93 q94 q95 q96 q97 q98 q99 q100 q101 q102 q103 q104 q105 q106 q107 q108 q109 q110 q111 q112 q113 q114 q115 q116 q117 q118 q119 q120 q121 q122 q123 q124 q125 q126 q127 q128 q129 q130 q131 q132 q133 q134 q135 q136 q137 q138 q139 q140 q141 q142 q143 q144 q145 q146 q147 q148 q149 q150 q151 q152 q153 q154 q155 q156 q157 q158 q159 q160 q161 q162 q163 q164 q165 q166 q167 q168 q169 q170 q171 q182 q183 q184 q185 q186 q187 q188 q189 q190 q191 W listed w y23 y24 y172 y173 y174 y175 y176 y177 y178 y179 y180 y181) (hi : 11 ∈ Region.ready .any fs40nops listed) :
    wpList Tryd.prog fs40nops (atEnd (fs40nInv K2 S2 bx E S b15 b11 ga k ca ev q0 q2 q3 q4 q5 q6 q8 q9 q10 q12 q13 q14 q16 q17 q18 q19 q21 q22 q25 q26 q27 q28 q29 q30 q31 q32 q33 q34 q35 q36 q37 q38 q39 q40 q41 q42 q43 q44 q45 q46 q47 q48 q49 q50 q51 q52 q53 q54 q55 q56 q57 q58 q59 q60 q61 q62 q63 q64 q65 q66 q67 q68 q69 q70 q71 q72 q73 q74 q75 q76 q77 q78 q79 q80 q81 q82 q83 q84 q85 q86 q87 q88 q89 q90 q91 q92 q93 q94 q95 q96 q97 q98 q99 q100 q101 q102 q103 q104 q105 q106 q107 q108 q109 q110 q111 q112 q113 q114 q115 q116 q117 q118 q119 q120 q121 q122 q123 q124 q125 q126 q127 q128 q129 q130 q131 q132 q133 q134 q135 q136 q137 q138 q139 q140 q141 q142 q143 q144 q145 q146 q147 q148 q149 q150 q151 q152 q153 q154 q155 q156 q157 q158 q159 q160 q161 q162 q163 q164 q165 q166 q167 q168 q169 q170 q171 q182 q183 q184 q185 q186 q187 q188 q189 q190 q191 W (listed.setIfInBounds 11 true)) Q) [fs40no11] (fs40nfr K2 S2 bx E S b15 b11 ga k ca ev q0 q2 q3 q4 q5 q6 q8 q9 q10 q12 q13 q14 q16 q17 q18 q19 q21 q22 q25 q26 q27 q28 q29 q30 q31 q32 q33 q34 q35 q36 q37 q38 q39 q40 q41 q42 q43 q44 q45 q46 q47 q48 q49 q50 q51 q52 q53 q54 q55 q56 q57 q58 q59 q60 q61 q62 q63 q64 q65 q66 q67 q68 q69 q70 q71 q72 q73 q74 q75 q76 q77 q78 q79 q80 q81 q82 q83 q84 q85 q86 q87 q88 q89 q90 q91 q92 q93 q94 q95 q96 q97 q98 q99 q100 q101 q102 q103 q104 q105 q106 q107 q108 q109 q110 q111 q112 q113 q114 q115 q116 q117 q118 q119 q120 q121 q122 q123 q124 q125 q126 q127 q128 q129 q130 q131 q132 q133 q134 q135 q136 q137 q138 q139 q140 q141 q142 q143 q144 q145 q146 q147 q148 q149 q150 q151 q152 q153 q154 q155 q156 q157 q158 q159 q160 q161 q162 q163 q164 q165 q166 q167 q168 q169 q170 q171 q182 q183 q184 q185 q186 q187 q188 q189 q190 q191 y23 y24 y172 y173 y174 y175 y176 y177 y178 y179 y180 y181) w := by
  obtain ⟨hn1, hdep⟩ := fs40ndep hi fs40no11 rfl
  obtain ⟨hlt, hno⟩ := cha_no hn1
  have l9 : Lb listed 9 = true := hdep { on := 9, ground := Ground.data } (by unfold fs40no11; simp) rfl
  obtain rfl := h.p9 l9
  have HH : Hid _ := h
  clear h hdep hn1
  unfold fs40nfr fs40no11
  go_wp2_with fail
  have h := HH.out
  have hb := Below.refl w.heap.size w
  refine ⟨_, _, _, _, _, _, _, _, _, _, _, _, rfl, {
    size := by simpa using h.size
    bel := h.bel.trans (hb.mono h.bel.size)
    p0 := fun hl => h.p0 (by rwa [Lb_ne (by omega)] at hl)
    p1 := fun hl => h.p1 (by rwa [Lb_ne (by omega)] at hl)
    p2 := fun hl => h.p2 (by rwa [Lb_ne (by omega)] at hl)
    p3 := fun hl => (h.p3 (by rwa [Lb_ne (by omega)] at hl)).later hb
    p4 := fun hl => h.p4 (by rwa [Lb_ne (by omega)] at hl)
    p5 := fun hl => (h.p5 (by rwa [Lb_ne (by omega)] at hl)).later hb
    p6 := fun hl => h.p6 (by rwa [Lb_ne (by omega)] at hl)
    p7 := fun hl => h.p7 (by rwa [Lb_ne (by omega)] at hl)
    p8 := fun hl => h.p8 (by rwa [Lb_ne (by omega)] at hl)
    p9 := fun hl => h.p9 (by rwa [Lb_ne (by omega)] at hl)
    p10 := fun hl => h.p10 (by rwa [Lb_ne (by omega)] at hl)
    p11 := fun _ => rfl }⟩
end Go.Proofs.YtlbnmiinokkkgaaDoor
