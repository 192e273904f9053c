import Derived.Test.YtijlicammbpeeaaGreatDoorME29
/- The program's entries: 'readKey', 'readHex', 'readNumber', 'readFlag', 'readSource'. -/
namespace Go.Proofs.YtijlicammbpeeaaGreatDoor
open Go.RowKit
set_option linter.unusedVariables false
set_option linter.unusedSimpArgs false
structure En where
  key : List Int
  known : Bool
  op : OpV
  keyl : key.length = 32
def En.zero : En := ⟨zeroL 32, false, ⟨0, 0, Sv.zero, []⟩, by simp [zeroL]⟩
def enL (e : En) (d : Value) : List Value := u8s e.key ++ (.bool e.known :: (.int .i64 e.op.kind :: (.int .i64 e.op.n :: (srL e.op.src ++ [d]))))
theorem enL_len (e : En) (d : Value) : (enL e d).length = 54 := by simp [enL, srL_len, e.keyl]
theorem infoEn (e : En) (d : Value) : (Tryz.prog.info? 54).map (·.size) = some (enL e d).toArray.size := by rw [List.size_toArray, enL_len]; kernel_rfl
theorem zeroEn : ∀ W, (zeroValue 54).run Tryz.prog W = .ok (.agg (enL En.zero (.slice none 0 0)).toArray) W := fun W => by kernel_rfl
theorem enL_known (e : En) (d : Value) (v : Bool) : (enL e d).set 32 (.bool v) = enL { e with known := v } d := set_at (u8s e.key) _ _ _ 32 (by rw [u8s_len, e.keyl])
theorem enL_kind (e : En) (d : Value) (v : Int) : (enL e d).set 33 (.int .i64 v) = enL { e with op := { e.op with kind := v } } d := by
  have h : ∀ x, enL { e with op := { e.op with kind := x } } d = (u8s e.key ++ [.bool e.known]) ++ .int .i64 x :: (.int .i64 e.op.n :: (srL e.op.src ++ [d])) := fun x => by simp [enL]
  rw [show enL e d = enL { e with op := { e.op with kind := e.op.kind } } d from rfl, h, h]
  exact set_at _ _ _ _ 33 (by simp [e.keyl])
theorem enL_n (e : En) (d : Value) (v : Int) : (enL e d).set 34 (.int .i64 v) = enL { e with op := { e.op with n := v } } d := by
  have h : ∀ x, enL { e with op := { e.op with n := x } } d = (u8s e.key ++ [.bool e.known, .int .i64 e.op.kind]) ++ .int .i64 x :: (srL e.op.src ++ [d]) := fun x => by simp [enL]
  rw [show enL e d = enL { e with op := { e.op with n := e.op.n } } d from rfl, h, h]
  exact set_at _ _ _ _ 34 (by simp [e.keyl])
theorem enL_data (e : En) (d d' : Value) (l : List Int) : (enL e d).set 53 d' = enL { e with op := { e.op with data := l } } d' := by
  have h : ∀ x g, enL { e with op := { e.op with data := g } } x = (u8s e.key ++ (.bool e.known :: (.int .i64 e.op.kind :: (.int .i64 e.op.n :: srL e.op.src)))) ++ x :: [] := fun x g => by simp [enL]
  rw [show enL e d = enL { e with op := { e.op with data := e.op.data } } d from rfl, h, h]
  exact set_at _ _ _ _ 53 (by simp [srL_len, e.keyl])
theorem enL_src (e : En) (d : Value) (s : Sv) : (enL e d).take 35 ++ srL s ++ (enL e d).drop (35 + (srL s).length) = enL { e with op := { e.op with src := s } } d := by
  have h : ∀ x, enL { e with op := { e.op with src := x } } d = (u8s e.key ++ [.bool e.known, .int .i64 e.op.kind, .int .i64 e.op.n]) ++ (srL x ++ [d]) := fun x => by simp [enL]
  rw [show enL e d = enL { e with op := { e.op with src := e.op.src } } d from rfl, h, h]
  exact put_at _ _ _ _ 35 (by simp [e.keyl]) (by rw [srL_len, srL_len])
theorem enL_key (e : En) (d : Value) (k : List Int) (hk : k.length = 32) : (enL e d).take 0 ++ u8s k ++ (enL e d).drop (0 + (u8s k).length) = enL { e with key := k, keyl := hk } d :=
  put_at [] (u8s e.key) (u8s k) _ 0 rfl (by rw [u8s_len, u8s_len, e.keyl, hk])
theorem enL_at32 (e : En) (d : Value) : (enL e d).toArray[32]? = some (.bool e.known) := by
  rw [enL, List.getElem?_toArray, List.getElem?_append_right (by simp [e.keyl])]
  simp [e.keyl]
theorem put_by {w W : World} {g : Nat} {cs : Array Value} {t : TypeId} (hP : Put w g cs t W) : w.grownBy W (some g) := by
  have h := hP.below 0 w (Below.refl _ _) (Nat.zero_le _)
  exact ⟨h.os, h.tape, h.output, h.size, fun k _ hne => hP.far k (fun e => hne (by rw [e]))⟩
theorem by_weak {w W : World} {row : Option Nat} (h : w.grownBy W none) : w.grownBy W row := ⟨h.os, h.tape, h.output, h.size, fun k hk _ => h.block k hk (by simp)⟩
theorem Sl.rangeP {w : World} {g o : Nat} {l : List Int} (h : Sl w g o l) : w.rangeAt g o (u8s l) := by
  intro j v hj
  have hj' : j < l.length := by simpa using (List.getElem?_eq_some_iff.1 hj).1
  rw [h.2 j hj', ← hj]
  simp [hj']
theorem wpToPtr {P : Program} {ops : Array Oper} {rest : List Oper} {o : Oper} {a : Act} {w : World} {Q : Exit → Act → World → Prop} (hgd : o.guard = none) (t : TypeId) (x : Operand) (ho : o.op = .sliceToArrayPointer t x) (v : Value)
    (he : (execOp a.eval o).run P w = .ok (.value v) w) (h : wpList P ops Q rest (a.put o.dst v) w) : wpList P ops Q (o :: rest) a w := by
  refine wpList_plain hgd fun K hK => ?_
  unfold Oper.wp
  rw [he]
  exact hK _ _ h
/-- A word read by its form, as the program has it. -/
noncomputable def wordP (c : UInt8) (w : List UInt8) (e : En) : Except Int En :=
  if c = 110 then (match numM (ub w) with | some v => .ok { e with op := { e.op with n := v } } | none => .error 4)
  else if c = 115 then (match srcM (ub w) with | some s => .ok { e with op := { e.op with src := s } } | none => .error 7)
  else if c = 102 then (if w = sKnown then .ok { e with known := true } else if w = sOther then .ok { e with known := false } else .error 6)
  else if c = 107 then (match pairsM (ub w) with | some b => if h : b.length = 32 then .ok { e with key := b, keyl := h } else .error 5 | none => .error 5)
  else (if w = [45] then .ok e else match pairsM (ub w) with | some b => .ok { e with op := { e.op with data := b } } | none => .error 5)
def ReadR (base : Nat) (w w' : World) (be : Nat) (r : Except Int En) (x : Ending) : Prop :=
  w.grownBy w' (some be) ∧ ∃ e1 d1 code, x = .returned (.int .i64 code) ∧ w'.heap[be]? = some (.cells (enL e1 d1).toArray 54) ∧ DV base w' d1 e1.op.data ∧ d1.ownBlock ≠ some be ∧ (match r with | .ok g => e1 = g ∧ code = 0 | .error k => code = k)
structure Ent (base : Nat) (w : World) (be : Nat) (e : En) (d : Value) : Prop where
  here : w.heap[be]? = some (.cells (enL e d).toArray 54)
  dv : DV base w d e.op.data
  ne : d.ownBlock ≠ some be
  base : base ≤ w.heap.size
theorem Ent.lt {base : Nat} {w : World} {be : Nat} {e : En} {d : Value} (h : Ent base w be e d) : be < w.heap.size := (Array.getElem?_eq_some_iff.1 h.here).1
theorem Ent.later {base : Nat} {w w' : World} {be : Nat} {e : En} {d : Value} (h : Ent base w be e d) (hb : Below w.heap.size w w') : Ent base w' be e d := ⟨(hb.block be h.lt).trans h.here, h.dv.later hb, h.ne, Nat.le_trans h.base hb.size⟩
/-- Behind a call and a store into the entry. -/
theorem Ent.done {base : Nat} {w w1 w2 : World} {be : Nat} {e e' : En} {d d' : Value} (hb : Below w.heap.size w w1) (hP : Put w1 be (enL e' d').toArray 54 w2) (hd : DV base w1 d' e'.op.data) (hne : d'.ownBlock ≠ some be) (code : Int) (r : Except Int En) (hr : match r with | .ok g => e' = g ∧ code = 0 | .error k => code = k) : ReadR base w w2 be r (.returned (.int .i64 code)) :=
  ⟨grownBy_trans (by_weak (below_by hb)) (put_by hP), e', d', code, rfl, hP.here, hd.put hP hne, hne, hr⟩
theorem Ent.same {base : Nat} {w w1 : World} {be : Nat} {e : En} {d : Value} (h : Ent base w be e d) (hb : Below w.heap.size w w1) (code : Int) (r : Except Int En) (hr : match r with | .ok g => e = g ∧ code = 0 | .error k => code = k) : ReadR base w w1 be r (.returned (.int .i64 code)) :=
  ⟨by_weak (below_by hb), e, d, code, rfl, (h.later hb).here, (h.later hb).dv, h.ne, hr⟩
section
variable (e : En) (d : Value) (s : List UInt8) (hs : s.length ≤ 1048576) (be base : Nat) (w : World) (hE : Ent base w be e d) (hg : Gl w)
set_option maxHeartbeats 4000000 in
include hs hE hg in
theorem readNumber_any : Calls Tryz.prog 30 #[.pointer (some ⟨be, 0, none⟩), .string ⟨s.toArray⟩] w fun x w' => ReadR base w w' be (wordP 110 s e) x := by
  have HE : Hid _ := hE
  have HG : Hid _ := hg
  clear hE hg
  go_enter Tryz.func30, Tryz.ntmps30
  go_wp2_with fail
  refine (numberOf_any s hs w HG.out).mono ?_
  rintro x w1 ⟨hb, ⟨v, hv, rfl⟩ | ⟨hv, rfl⟩⟩
  · have HB : Hid _ := hb
    have E1 : Hid _ := HE.out.later hb
    have HR : Hid (wordP 110 s e = .ok { e with op := { e.op with n := v } }) := by show _ = _; rw [wordP, if_pos rfl, hv]
    have z1 : Hid (w1.heap[be]? = some (.cells (enL e d).toArray 54)) := E1.out.here
    have l1 : Hid (34 < (enL e d).length) := by show _ < _; rw [enL_len]; decide
    have n1 : Hid (_ = _) := enL_n e d v
    clear hb hv
    go_wp2_with (with_reducible refine aSt ?_; refine wpList_put_val rfl 3 _ _ rfl be 34 (.int .i64 v) rfl rfl _ _ z1.out info64 l1.out rfl _ n1.out ?_)
    intro w2 hP
    go_wp2
    go_ret
    exact Ent.done (e := e) (d := d) HB.out hP E1.out.dv E1.out.ne 0 _ (by rw [HR.out]; exact ⟨rfl, rfl⟩)
  · have HB : Hid _ := hb
    have HR : Hid (wordP 110 s e = .error 4) := by show _ = _; rw [wordP, if_pos rfl, hv]
    clear hb hv
    go_wp2
    go_ret
    exact HE.out.same HB.out 4 _ (by rw [HR.out])
set_option maxHeartbeats 4000000 in
include hs hE hg in
theorem readSource_any : Calls Tryz.prog 33 #[.pointer (some ⟨be, 0, none⟩), .string ⟨s.toArray⟩] w fun x w' => ReadR base w w' be (wordP 115 s e) x := by
  have HE : Hid _ := hE
  have HG : Hid _ := hg
  have hzv := zeroSv
  have iz : Hid _ := infoSv
  have az : Hid _ := srL_all
  clear hE hg
  go_enter Tryz.func33, Tryz.ntmps33
  go_wp2_with fail
  refine (sourceOf_any s hs w HG.out).mono ?_
  rintro x w1 ⟨hb, sv, ok, rfl, hv⟩
  have hbA : Below w.heap.size w (w1.alloc (.cells (srL Sv.zero).toArray 50)) := hb.alloc hb.size _
  have z1 : Hid ((w1.alloc (.cells (srL Sv.zero).toArray 50)).heap[w1.heap.size]? = some (.cells (srL Sv.zero).toArray 50)) := heap_alloc_new _ _
  have hs1 : Hid (w.heap.size ≤ w1.heap.size) := hb.size
  have HBA : Hid _ := hbA
  clear hb hbA
  rcases hv with ⟨rfl, hv⟩ | ⟨rfl, hv⟩
  · have HR : Hid (wordP 115 s e = .ok { e with op := { e.op with src := sv } }) := by show _ = _; rw [wordP, if_neg (by decide), if_pos rfl, hv]
    clear hv
    go_wp2_with (with_reducible refine aSt ?_; refine wpList_put_row rfl 50 _ _ rfl w1.heap.size (srL sv).toArray rfl rfl _ _ z1.out (iz.out _) ?hs (az.out _) ?_)
    case hs => simp [srL_len]
    intro w2 hP2
    have HB2 : Hid (Below w.heap.size w w2) := hP2.below _ _ HBA.out hs1.out
    have z2 : Hid (w2.heap[w1.heap.size]? = some (.cells (srL sv).toArray 50)) := hP2.here
    have E2 : Hid _ := HE.out.later HB2.out
    have z3 : Hid (w2.heap[be]? = some (.cells (enL e d).toArray 54)) := E2.out.here
    have q2 : Hid (35 + (srL sv).length ≤ (enL e d).length) := by show _ ≤ _; rw [srL_len, enL_len]; decide
    have q3 : Hid _ := infoSvl sv
    have q4 : Hid _ := srL_one sv
    have q5 : Hid _ := enL_src e d sv
    clear hP2 HBA z1
    go_wp2_with (first
      | (with_reducible refine aLd ?_; refine wpList_load_row rfl 50 _ rfl w1.heap.size rfl _ (srL sv).toArray _ _ z2.out Tryz.underlying50 rfl (iz.out _) ?_)
      | (with_reducible refine aSt ?_; refine wpList_put_part rfl 50 _ _ rfl be 35 (srL sv) rfl rfl _ _ z3.out _ q3.out q2.out q4.out q5.out ?_))
    intro w4 hP
    go_wp2
    go_ret
    exact Ent.done (e := e) (d := d) HB2.out hP E2.out.dv E2.out.ne 0 _ (by rw [HR.out]; exact ⟨rfl, rfl⟩)
  · have HR : Hid (wordP 115 s e = .error 7) := by show _ = _; rw [wordP, if_neg (by decide), if_pos rfl, hv]
    clear hv
    go_wp2_with (with_reducible refine aSt ?_; refine wpList_put_row rfl 50 _ _ rfl w1.heap.size (srL sv).toArray rfl rfl _ _ z1.out (iz.out _) ?hs (az.out _) ?_)
    case hs => simp [srL_len]
    intro w2 hP2
    have HB2 : Hid (Below w.heap.size w w2) := hP2.below _ _ HBA.out hs1.out
    go_wp2
    go_ret
    exact HE.out.same HB2.out 7 _ (by rw [HR.out])
set_option maxHeartbeats 4000000 in
include hs hE hg in
theorem readFlag_any : Calls Tryz.prog 34 #[.pointer (some ⟨be, 0, none⟩), .string ⟨s.toArray⟩] w fun x w' => ReadR base w w' be (wordP 102 s e) x := by
  have uhs := hs
  have uhg := hg
  clear uhs uhg
  have HE : Hid _ := hE
  have z1 : Hid (w.heap[be]? = some (.cells (enL e d).toArray 54)) := hE.here
  have l1 : Hid (32 < (enL e d).length) := by show _ < _; rw [enL_len]; decide
  clear hE hg
  have key : ∀ (v : Bool) (w2 : World), Put w be (enL { e with known := v } d).toArray 54 w2 → w2.cell? ⟨be, 32, none⟩ = some (.bool v) := fun v w2 hP => by
    rw [cell_of_row _ _ _ _ _ _ hP.here]
    exact enL_at32 { e with known := v } d
  have KEY : Hid _ := key
  clear key
  by_cases hk : s = sKnown
  · have k1 : (s == [107, 110, 111, 119, 110]) = true := by rw [hk]; rfl
    have HR : Hid (wordP 102 s e = .ok { e with known := true }) := by show _ = _; rw [wordP, if_neg (by decide), if_neg (by decide), if_pos rfl, if_pos hk]
    have n1 : Hid (_ = _) := enL_known e d true
    clear hk
    go_enter Tryz.func34, Tryz.ntmps34
    go_wp2_with (with_reducible refine aSt ?_; refine wpList_put_val rfl 4 _ _ rfl be 32 (.bool true) rfl rfl _ _ z1.out infoB1 l1.out rfl _ n1.out ?_)
    intro w2 hP
    have c2 := KEY.out true w2 hP
    go_wp2
    go_ret
    exact Ent.done (e := e) (d := d) (Below.refl _ _) hP HE.out.dv HE.out.ne 0 _ (by rw [HR.out]; exact ⟨rfl, rfl⟩)
  · have k1 : (s == [107, 110, 111, 119, 110]) = false := by simpa [sKnown] using hk
    have n1 : Hid (_ = _) := enL_known e d false
    by_cases ho : s = sOther
    · have k2 : (s == [111, 116, 104, 101, 114]) = true := by rw [ho]; rfl
      have HR : Hid (wordP 102 s e = .ok { e with known := false }) := by show _ = _; rw [wordP, if_neg (by decide), if_neg (by decide), if_pos rfl, if_neg hk, if_pos ho]
      clear hk ho
      go_enter Tryz.func34, Tryz.ntmps34
      go_wp2_with (with_reducible refine aSt ?_; refine wpList_put_val rfl 4 _ _ rfl be 32 (.bool false) rfl rfl _ _ z1.out infoB1 l1.out rfl _ n1.out ?_)
      intro w2 hP
      have c2 := KEY.out false w2 hP
      go_wp2
      go_ret
      exact Ent.done (e := e) (d := d) (Below.refl _ _) hP HE.out.dv HE.out.ne 0 _ (by rw [HR.out]; exact ⟨rfl, rfl⟩)
    · have k2 : (s == [111, 116, 104, 101, 114]) = false := by simpa [sOther] using ho
      have HR : Hid (wordP 102 s e = .error 6) := by show _ = _; rw [wordP, if_neg (by decide), if_neg (by decide), if_pos rfl, if_neg hk, if_neg ho]
      clear hk ho
      go_enter Tryz.func34, Tryz.ntmps34
      go_wp2_with (with_reducible refine aSt ?_; refine wpList_put_val rfl 4 _ _ rfl be 32 (.bool false) rfl rfl _ _ z1.out infoB1 l1.out rfl _ n1.out ?_)
      intro w2 hP
      have c2 := KEY.out false w2 hP
      go_wp2
      go_ret
      exact Ent.done (e := e) (d := d) (Below.refl _ _) hP HE.out.dv HE.out.ne 6 _ (by rw [HR.out])
set_option maxHeartbeats 4000000 in
include hs hE hg in
theorem readHex_any : Calls Tryz.prog 37 #[.pointer (some ⟨be, 0, none⟩), .string ⟨s.toArray⟩] w fun x w' => ReadR base w w' be (wordP 104 s e) x := by
  have uhg := hg
  clear uhg
  have HE : Hid _ := hE
  have HBE : Hid _ := hE.lt
  clear hE hg
  by_cases hm : s = [45]
  · have k1 : (s == [45]) = true := by rw [hm]; rfl
    have HR : Hid (wordP 104 s e = .ok e) := by show _ = _; rw [wordP, if_neg (by decide), if_neg (by decide), if_neg (by decide), if_neg (by decide), if_pos hm]
    clear hm
    go_enter Tryz.func37, Tryz.ntmps37
    go_wp2
    go_ret
    exact HE.out.same (Below.refl _ _) 0 _ (by rw [HR.out]; exact ⟨rfl, rfl⟩)
  · have k1 : (s == [45]) = false := by simpa using hm
    go_enter Tryz.func37, Tryz.ntmps37
    go_wp2_with fail
    refine (bytesOfHex_any s s.length rfl hs w).mono ?_
    rintro x w1 ⟨hb, ⟨p, v, hv, rfl, hown⟩ | ⟨hv, rfl⟩⟩
    · obtain ⟨gp, cp, rfl, hbg, _⟩ := hown.sl
      have HB : Hid _ := hb
      have E1 : Hid _ := HE.out.later hb
      have HR : Hid (wordP 104 s e = .ok { e with op := { e.op with data := p } }) := by show _ = _; rw [wordP, if_neg (by decide), if_neg (by decide), if_neg (by decide), if_neg (by decide), if_neg hm, hv]
      have z1 : Hid (w1.heap[be]? = some (.cells (enL e d).toArray 54)) := E1.out.here
      have l1 : Hid (53 < (enL e d).length) := by show _ < _; rw [enL_len]; decide
      have n1 : Hid (_ = _) := enL_data e d (.slice (some ⟨gp, 0, none⟩) p.length cp) p
      have DX : Hid (DV base w1 (.slice (some ⟨gp, 0, none⟩) p.length cp) p) := .inr (hown.mono HE.out.base)
      have HNE : Hid ((Value.slice (some ⟨gp, 0, none⟩) p.length cp).ownBlock ≠ some be) := fun e => by have := own_eq e; have := HBE.out; omega
      clear hb hv hm hown
      go_wp2_with (with_reducible refine aSt ?_; refine wpList_put_val rfl 22 _ _ rfl be 53 (.slice (some ⟨gp, 0, none⟩) p.length cp) rfl rfl _ _ z1.out infoS1 l1.out rfl _ n1.out ?_)
      intro w2 hP
      go_wp2
      go_ret
      exact Ent.done (e := e) (d := d) HB.out hP DX.out HNE.out 0 _ (by rw [HR.out]; exact ⟨rfl, rfl⟩)
    · have HB : Hid _ := hb
      have HR : Hid (wordP 104 s e = .error 5) := by show _ = _; rw [wordP, if_neg (by decide), if_neg (by decide), if_neg (by decide), if_neg (by decide), if_neg hm, hv]
      clear hb hv hm
      go_wp2
      go_ret
      exact HE.out.same HB.out 5 _ (by rw [HR.out])
set_option maxRecDepth 10000 in
set_option maxHeartbeats 4000000 in
include hs hE hg in
theorem readKey_any : Calls Tryz.prog 28 #[.pointer (some ⟨be, 0, none⟩), .string ⟨s.toArray⟩] w fun x w' => ReadR base w w' be (wordP 107 s e) x := by
  have uhg := hg
  clear uhg
  have HE : Hid _ := hE
  have HRR : Hid _ := (show wordP 107 s e = (match pairsM (ub s) with | some b => if h : b.length = 32 then .ok { e with key := b, keyl := h } else .error 5 | none => .error 5) by rw [wordP, if_neg (by decide), if_neg (by decide), if_neg (by decide), if_pos rfl])
  clear hE hg
  go_enter Tryz.func28, Tryz.ntmps28
  go_wp2_with fail
  refine (bytesOfHex_any s s.length rfl hs w).mono ?_
  rintro x w1 ⟨hb, ⟨p, v, hv, rfl, hown⟩ | ⟨hv, rfl⟩⟩
  · obtain ⟨gp, cp, rfl, hbg, hsl, hcp, _⟩ := hown.sl
    have HB : Hid _ := hb
    have E1 : Hid _ := HE.out.later hb
    have HO : Hid (Sl w1 gp 0 p) := hsl
    rw [hv] at HRR
    clear hb hv hown hsl
    obtain ⟨np, hnp⟩ : ∃ n, p.length = n := ⟨_, rfl⟩
    rw [hnp] at hcp ⊢
    by_cases h32 : np = 32
    · subst h32
      have HR : Hid (wordP 107 s e = .ok { e with key := p, keyl := hnp }) := by show _ = _; rw [HRR.out]; simp only []; rw [dif_pos hnp]
      have q1 : Hid (w1.rangeAt gp 0 (u8s p)) := Sl.rangeP HO.out
      have z1 : Hid (w1.heap[be]? = some (.cells (enL e d).toArray 54)) := E1.out.here
      have q2 : Hid (0 + (u8s p).length ≤ (enL e d).length) := by show _ ≤ _; rw [u8s_len, hnp, enL_len]; decide
      have q3 : Hid _ := infoK32 p hnp
      have q4 : Hid _ := bytes_one p
      have q5 : Hid _ := enL_key e d p hnp
      go_wp2_with (first
        | refine wpToPtr rfl _ _ rfl (.pointer (some ⟨gp, 0, none⟩)) (by kernel_rfl) ?_
        | (with_reducible refine aLd ?_; refine wpList_load_mid rfl 23 _ rfl gp 0 rfl (u8s p) _ q1.out Tryz.underlying23 rfl q3.out ?_)
        | (with_reducible refine aSt ?_; refine wpList_put_part rfl 23 _ _ rfl be 0 (u8s p) rfl rfl _ _ z1.out _ q3.out q2.out q4.out q5.out ?_))
      intro w2 hP
      go_wp2
      go_ret
      exact Ent.done (e := e) (d := d) HB.out hP E1.out.dv E1.out.ne 0 _ (by rw [HR.out]; exact ⟨rfl, rfl⟩)
    · have HR : Hid (wordP 107 s e = .error 5) := by show _ = _; rw [HRR.out]; simp only []; rw [dif_neg (by rw [hnp]; exact h32)]
      have q32 : ((np : Int) != 32) = true := by simp; omega
      clear h32
      go_wp2
      go_ret
      exact HE.out.same HB.out 5 _ (by rw [HR.out])
  · have HB : Hid _ := hb
    rw [hv] at HRR
    have HR : Hid (wordP 107 s e = .error 5) := HRR.out
    clear hb hv HRR
    go_wp2
    go_ret
    exact HE.out.same HB.out 5 _ (by rw [HR.out])
end
end Go.Proofs.YtijlicammbpeeaaGreatDoor
