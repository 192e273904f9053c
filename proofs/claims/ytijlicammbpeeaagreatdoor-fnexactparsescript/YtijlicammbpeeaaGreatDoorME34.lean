import Derived.Test.YtijlicammbpeeaaGreatDoorME33
/- The program's lines: words, the reader of a line. -/
namespace Go.Proofs.YtijlicammbpeeaaGreatDoor
open Go.RowKit
set_option linter.unusedVariables false
set_option linter.unusedSimpArgs false
theorem blank_is (x : Nat) (W : World) : Calls Tryz.prog 18 #[.int .i32 x] W fun e w' => e = .returned (.bool (blankR x)) ∧ w' = W := by
  by_cases h1 : x = 32
  · subst h1
    go_enter Tryz.func18, Tryz.ntmps18
    go_wp2
    go_ret
    exact ⟨rfl, rfl⟩
  · have e1 : ((x : Int) == 32) = false := by simp; omega
    by_cases h2 : x = 9
    · subst h2
      go_enter Tryz.func18, Tryz.ntmps18
      go_wp2
      go_ret
      exact ⟨rfl, rfl⟩
    · have e2 : ((x : Int) == 9) = false := by simp; omega
      have HB : Hid (blankR x = false) := by show _ = _; simp [blankR, h1, h2]
      rw [HB.out]
      go_enter Tryz.func18, Tryz.ntmps18
      go_wp2
      go_ret
      exact ⟨rfl, rfl⟩
set_option maxRecDepth 10000 in
theorem blankAt (w : World) : PredAt Tryz.prog 18 #[] encR blankR w := fun W x _ => by
  refine (blank_is x W).mono ?_
  rintro e w' ⟨rfl, rfl⟩
  exact ⟨rfl, 0, rfl⟩
set_option maxRecDepth 10000 in
theorem fields_any (l : List UInt8) (hl : l.length ≤ 1048576) (w : World) : Calls Tryz.prog 17 #[.string ⟨l.toArray⟩, .func (.func 18) #[] #[]] w fun e w' => ∃ A, e = .returned (.slice (some ⟨A, 0, none⟩) (fieldsU l).length (fieldsU l).length) ∧ w.heap.size ≤ A ∧ (∀ i q, (fieldsU l)[i]? = some q → w'.cell? ⟨A, i, none⟩ = some (.string ⟨q.toArray⟩)) ∧ Below w.heap.size w w' := by
  have hsz : (ByteArray.mk l.toArray).size ≤ 1048576 := by show l.toArray.size ≤ _; simpa using hl
  refine (strings_FieldsFunc 18 #[] (enters_of Tryz.func18 (by kernel_rfl) rfl) blankR ⟨l.toArray⟩ w (by omega) (blankAt w)).mono ?_
  rintro e w' ⟨A, rfl, hA, hown, hb⟩
  have hlen : (fieldsU l).length = (Lib.goFieldsP blankR ⟨l.toArray⟩).length := by rw [fieldsU, List.length_map]
  refine ⟨A, by rw [hlen], hA, fun i q hq => ?_, hb⟩
  have e2 : (⟨A, 0, none⟩ : Addr).add i = ⟨A, i, none⟩ := by unfold Addr.add; split <;> simp_all
  have := hown.cells (g := A) rfl i (.string ⟨q.toArray⟩) (by
    rw [fieldsU, List.getElem?_map] at hq
    rw [List.getElem?_map]
    cases hg : (Lib.goFieldsP blankR ⟨l.toArray⟩)[i]? with
    | none => rw [hg] at hq; cases hq
    | some b =>
      rw [hg] at hq
      have : b.data.toList = q := by simpa using hq
      rw [← this]
      rfl)
  rwa [e2] at this
/-- A form read, an entry put, whichever it is. -/
theorem readForm_any (c : UInt8) (hcc : c = 107 ∨ c = 110 ∨ c = 115 ∨ c = 104 ∨ c = 102) (e : En) (d : Value) (s : List UInt8) (hs : s.length ≤ 1048576) (be base : Nat) (w : World) (hE : Ent base w be e d) (hg : Gl w) :
    Calls Tryz.prog (formF c) #[.pointer (some ⟨be, 0, none⟩), .string ⟨s.toArray⟩] w fun x w' => ReadR base w w' be (wordP c s e) x := by
  rcases hcc with rfl | rfl | rfl | rfl | rfl
  · exact readKey_any e d s hs be base w hE hg
  · exact readNumber_any e d s hs be base w hE hg
  · exact readSource_any e d s hs be base w hE hg
  · exact readHex_any e d s hs be base w hE hg
  · exact readFlag_any e d s hs be base w hE hg
theorem formF_enters (c : UInt8) (hcc : c = 107 ∨ c = 110 ∨ c = 115 ∨ c = 104 ∨ c = 102) (args : Array Value) (w : World) : (callFunc (formF c) args).run Tryz.prog w = .ok (.enter (formF c) args) w := by
  rcases hcc with rfl | rfl | rfl | rfl | rfl
  · exact enters_of Tryz.func28 (by kernel_rfl) rfl args w
  · exact enters_of Tryz.func30 (by kernel_rfl) rfl args w
  · exact enters_of Tryz.func33 (by kernel_rfl) rfl args w
  · exact enters_of Tryz.func37 (by kernel_rfl) rfl args w
  · exact enters_of Tryz.func34 (by kernel_rfl) rfl args w
def putOf (s : List UInt8) (kind : Int) : PutK := if s = sGate then .gate else if s = sQueue then .queue else if s = sTable then .table else if s = sClient then .client else .op kind
noncomputable def readP : List UInt8 → List (List UInt8) → En → Except Int En
  | [], _, f => .ok f
  | c :: fs, w :: ws, f => match wordP c w f with | .ok g => readP fs ws g | .error k => .error k
  | _ :: _, [], f => .ok f
noncomputable def lineP (p : Ps) : List (List UInt8) → Except Int Ps
  | [] => .ok p
  | s :: r => match formM s with
    | none => .error 2
    | some (fm, kind) => if r.length = fm.length then (match readP fm r En.zero with | .ok f => .ok (putX (putOf s kind) f p) | .error k => .error k) else .error 3
theorem wP_n (w : List UInt8) (e : En) : wordP 110 w e = (match numM (ub w) with | some v => .ok { e with op := { e.op with n := v } } | none => .error 4) := by rw [wordP, if_pos (by decide)] <;> rfl
theorem wE_n (w : List UInt8) (f : Fl) : wordE ((110 : UInt8).toNat : Int) w f = (match numM (ub w) with | some v => .ok { f with n := v } | none => .error 4) := by rw [wordE, if_pos (by decide)] <;> rfl
theorem wP_s (w : List UInt8) (e : En) : wordP 115 w e = (match srcM (ub w) with | some s => .ok { e with op := { e.op with src := s } } | none => .error 7) := by rw [wordP, if_neg (by decide), if_pos (by decide)] <;> rfl
theorem wE_s (w : List UInt8) (f : Fl) : wordE ((115 : UInt8).toNat : Int) w f = (match srcM (ub w) with | some s => .ok { f with src := s } | none => .error 7) := by rw [wordE, if_neg (by decide), if_pos (by decide)] <;> rfl
theorem wP_f (w : List UInt8) (e : En) : wordP 102 w e = (if w = sKnown then .ok { e with known := true } else if w = sOther then .ok { e with known := false } else .error 6) := by rw [wordP, if_neg (by decide), if_neg (by decide), if_pos (by decide)] <;> rfl
theorem wE_f (w : List UInt8) (f : Fl) : wordE ((102 : UInt8).toNat : Int) w f = (if w = sKnown then .ok { f with flag := true } else if w = sOther then .ok { f with flag := false } else .error 6) := by rw [wordE, if_neg (by decide), if_neg (by decide), if_pos (by decide)] <;> rfl
theorem wP_k (w : List UInt8) (e : En) : wordP 107 w e = (match pairsM (ub w) with | some b => if h : b.length = 32 then .ok { e with key := b, keyl := h } else .error 5 | none => .error 5) := by rw [wordP, if_neg (by decide), if_neg (by decide), if_neg (by decide), if_pos (by decide)] <;> rfl
theorem wE_k (w : List UInt8) (f : Fl) : wordE ((107 : UInt8).toNat : Int) w f = (match pairsM (ub w) with | some b => if b.length = 32 then .ok { f with data := b, key := fitN 32 b, keyl := fitN_length _ _ } else .error 5 | none => .error 5) := by rw [wordE, if_neg (by decide), if_neg (by decide), if_neg (by decide), if_pos (by decide)] <;> rfl
theorem wP_h (w : List UInt8) (e : En) : wordP 104 w e = (if w = [45] then .ok e else match pairsM (ub w) with | some b => .ok { e with op := { e.op with data := b } } | none => .error 5) := by rw [wordP, if_neg (by decide), if_neg (by decide), if_neg (by decide), if_neg (by decide)] <;> rfl
theorem wE_h (w : List UInt8) (f : Fl) : wordE ((104 : UInt8).toNat : Int) w f = (if w = [45] then .ok { f with data := [], key := fitN 32 [], keyl := fitN_length _ _ } else match pairsM (ub w) with | some b => .ok { f with data := b, key := fitN 32 b, keyl := fitN_length _ _ } | none => .error 5) := by rw [wordE, if_neg (by decide), if_neg (by decide), if_neg (by decide), if_neg (by decide)] <;> rfl
def endP (s : List UInt8) (kind : Int) (p : Ps) : Except Int En → Except Int Ps
  | .ok f => .ok (putX (putOf s kind) f p)
  | .error k => .error k
def endE (s : List UInt8) (kind : Int) (p : Ps) : Except Int Fl → Except Int Ps
  | .ok f => .ok (putE s kind f p)
  | .error k => .error k
theorem two_n (s : List UInt8) (kind : Int) (p : Ps) (w : List UInt8) (h : ∀ v : Int, putX (putOf s kind) { En.zero with op := { En.zero.op with n := v } } p = putE s kind { Fl.zero with n := v } p) : endP s kind p (readP [110] [w] En.zero) = endE s kind p (readE [110] [w] Fl.zero) := by
  simp only [readP, readE, wP_n, wE_n]
  cases numM (ub w) with
  | none => rfl
  | some v => exact congrArg Except.ok (h v)
theorem two_h (s : List UInt8) (kind : Int) (p : Ps) (w : List UInt8) (h : ∀ (b k : List Int) (hk : k.length = 32), putX (putOf s kind) { En.zero with op := { En.zero.op with data := b } } p = putE s kind { Fl.zero with data := b, key := k, keyl := hk } p) : endP s kind p (readP [104] [w] En.zero) = endE s kind p (readE [104] [w] Fl.zero) := by
  simp only [readP, readE, wP_h, wE_h]
  by_cases hw : w = [45]
  · rw [if_pos hw, if_pos hw]
    exact congrArg Except.ok (h [] _ _)
  · rw [if_neg hw, if_neg hw]
    cases pairsM (ub w) with
    | none => rfl
    | some b => exact congrArg Except.ok (h b _ _)
theorem two_k (p : Ps) (w : List UInt8) : endP sGate 0 p (readP [107] [w] En.zero) = endE sGate 0 p (readE [107] [w] Fl.zero) := by
  simp only [readP, readE, wP_k, wE_k]
  cases pairsM (ub w) with
  | none => rfl
  | some b =>
    by_cases hb : b.length = 32
    · simp only [hb, if_true, dif_pos]
      have e := fitN_id 32 b hb
      show Except.ok _ = Except.ok _
      simp [putX, putOf, putE, e]
    · simp only [hb, if_false, dif_neg, not_false_eq_true]
      rfl
theorem two_sh (s : List UInt8) (kind : Int) (p : Ps) (w1 w2 : List UInt8) (h : ∀ (v : Sv) (b k : List Int) (hk : k.length = 32), putX (putOf s kind) { En.zero with op := { En.zero.op with src := v, data := b } } p = putE s kind { Fl.zero with src := v, data := b, key := k, keyl := hk } p) : endP s kind p (readP [115, 104] [w1, w2] En.zero) = endE s kind p (readE [115, 104] [w1, w2] Fl.zero) := by
  simp only [readP, readE, wP_s, wE_s]
  cases srcM (ub w1) with
  | none => rfl
  | some v =>
    simp only [wP_h, wE_h]
    by_cases hw : w2 = [45]
    · rw [if_pos hw, if_pos hw]
      exact congrArg Except.ok (h v [] _ _)
    · rw [if_neg hw, if_neg hw]
      cases pairsM (ub w2) with
      | none => rfl
      | some b => exact congrArg Except.ok (h v b _ _)
theorem two_ksf (p : Ps) (w1 w2 w3 : List UInt8) : endP sClient 0 p (readP [107, 115, 102] [w1, w2, w3] En.zero) = endE sClient 0 p (readE [107, 115, 102] [w1, w2, w3] Fl.zero) := by
  simp only [readP, readE, wP_k, wE_k]
  cases pairsM (ub w1) with
  | none => rfl
  | some b =>
    by_cases hb : b.length = 32
    · have e := fitN_id 32 b hb
      simp only [hb, if_true, dif_pos, wP_s, wE_s]
      cases srcM (ub w2) with
      | none => rfl
      | some v =>
        simp only [wP_f, wE_f]
        by_cases h1 : w3 = sKnown
        · rw [if_pos h1, if_pos h1]
          show Except.ok _ = Except.ok _
          simp [putX, putOf, putE, e, sClient, sGate, sQueue, sTable]
        · rw [if_neg h1, if_neg h1]
          by_cases h2 : w3 = sOther
          · rw [if_pos h2, if_pos h2]
            show Except.ok _ = Except.ok _
            simp [putX, putOf, putE, e, sClient, sGate, sQueue, sTable]
          · rw [if_neg h2, if_neg h2]
            rfl
    · simp only [hb, if_false, dif_neg, not_false_eq_true]
      rfl
/-- Both ways to read a line come to one. -/
theorem line_same (p : Ps) (ws : List (List UInt8)) : lineP p ws = lineE p ws := by
  cases ws with
  | nil => rfl
  | cons s r =>
    have two : ∀ fm kind, r.length = fm.length → formM s = some (fm, kind) → endP s kind p (readP fm r En.zero) = endE s kind p (readE fm r Fl.zero) := by
      intro fm kind hl
      refine formM_cases s (fun o => o = some (fm, kind) → _) ?_ ?_ ?_ ?_ ?_ ?_ ?_ ?_ ?_ ?_ ?_ ?_ (fun _ _ _ _ _ _ _ _ _ _ _ _ h => by cases h)
      all_goals
        intro hs h
        cases h
        rw [hs]
        simp only [List.length_cons, List.length_nil] at hl
        first
        | (rcases r with _ | ⟨w1, _ | ⟨w2, _ | ⟨w3, _ | ⟨w4, t⟩⟩⟩⟩ <;> first | (simp at hl; done) | skip)
        first
        | exact two_k p _
        | exact two_ksf p _ _ _
        | exact two_n _ _ p _ (fun v => rfl)
        | exact two_sh _ _ p _ _ (fun v b k hk => rfl)
        | exact two_h _ _ p _ (fun b k hk => rfl)
        | rfl
    unfold lineP lineE
    simp only []
    cases hf : formM s with
    | none => rfl
    | some q =>
      obtain ⟨fm, kind⟩ := q
      simp only []
      by_cases hl : r.length = fm.length
      · rw [if_pos hl, if_pos hl]
        have := two fm kind hl hf
        unfold endP endE at this
        cases h1 : readP fm r En.zero <;> cases h2 : readE fm r Fl.zero <;> rw [h1, h2] at this <;> exact this
      · rw [if_neg hl, if_neg hl]
end Go.Proofs.YtijlicammbpeeaaGreatDoor
