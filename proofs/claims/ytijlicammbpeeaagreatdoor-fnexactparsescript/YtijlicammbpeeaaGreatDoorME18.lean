import Derived.Test.YtijlicammbpeeaaGreatDoorME17
import Derived.Great.BuildSlice
/- Scripts as text: a parsed script in memory. -/
namespace Go.Proofs.YtijlicammbpeeaaGreatDoor
open Go.RowKit
set_option linter.unusedVariables false
set_option linter.unusedSimpArgs false
theorem wpOneZ {P : Program} {ops : Array Oper} {rest : List Oper} {o : Oper} {a : Act} {w : World} {Q : Exit → Act → World → Prop} (size bytes : Nat) (z : Value) (t e : TypeId) (ht : P.underlying t = some (.slice e)) (hinfo : (P.info? e).map (fun i => (i.zero, i.size, i.bytes)) = some (some z, size, bytes)) (h0 : 0 < size) (hsm : size ≤ 1000)
    (hg : o.guard = none) (x : Operand) (ho : o.op = .buildSlice t 1 #[(0, x)]) (vs : List Value) (hv : vs.length = size) (hx : a.eval x = .agg vs.toArray)
    (h : wpList P ops Q rest (a.put o.dst (.slice (some ⟨w.heap.size, 0, none⟩) 1 1)) (w.alloc (.cells vs.toArray e))) : wpList P ops Q (o :: rest) a w := by
  obtain ⟨i, hi, hz', hsz, hby⟩ := info_parts hinfo
  refine wpList_buildSlice hg t e 1 #[(0, x)] ho vs.toArray i _ ht hi hz' (by rw [hsz]; omega) (by rw [hsz]; omega) ?_ h
  rw [hsz]
  have hA : ((Array.range (1 * size)).map (z.cells[· % z.cells.size]!)).size = size := by simp
  generalize (Array.range (1 * size)).map (z.cells[· % z.cells.size]!) = A at hA
  simp only [List.map_toArray, List.map_cons, List.map_nil, hx]
  have hl : A.toList.length = size := by simpa using hA
  have := fill_step (place := fun i => some (i * size, size)) A.toList 0 0 size (.agg vs.toArray) vs rfl (by simp) hv (by omega) vs (by rw [List.drop_eq_nil_of_le (by omega)]; simp) []
  rw [Array.toArray_toList] at this
  exact this
/-- A script that has been read. -/
structure Ps where
  key : List Int
  queue : Int
  table : Int
  cl : List Cl
  ops : List OpV
  keyl : key.length = 32
def Ps.start : Ps := ⟨zeroL 32, 64, 1024, [], [], by simp [zeroL]⟩
def flatC (cl : List Cl) : List Value := cl.flatMap clL
def flatQ (ops : List OpV) (ds : List Value) : List Value := (List.zipWith opL ops ds).flatten
theorem flatC_push (cl : List Cl) (c : Cl) : flatC (cl ++ [c]) = flatC cl ++ clL c := by simp [flatC]
theorem flatQ_push (ops : List OpV) (ds : List Value) (o : OpV) (d : Value) (h : ds.length = ops.length) : flatQ (ops ++ [o]) (ds ++ [d]) = flatQ ops ds ++ opL o d := by
  unfold flatQ
  rw [List.zipWith_append (by omega)]
  simp
/-- No two of them lie in one block. -/
def ApartV (vs : List Value) : Prop := vs.Pairwise fun a b => ∀ k, a.ownBlock = some k → b.ownBlock ≠ some k
structure PsR (base : Nat) (w : World) (cv ov : Value) (ds : List Value) (cl : List Cl) (ops : List OpV) : Prop where
  cls : w.ownsRow base 75 51 cv cl.length (flatC cl)
  opr : w.ownsRow base 52 21 ov ops.length (flatQ ops ds)
  len : ds.length = ops.length
  dat : ∀ (i : Nat) (o : OpV) (d : Value), ops[i]? = some o → ds[i]? = some d → DV base w d o.data
  apart : ApartV (cv :: ov :: ds)
section
variable {base : Nat} {w w' : World} {cv ov : Value} {ds : List Value} {cl : List Cl} {ops : List OpV}
theorem PsR.datE (h : PsR base w cv ov ds cl ops) {d : Value} (hd : d ∈ ds) : ∃ l, DV base w d l := by
  obtain ⟨i, hi, e⟩ := List.getElem_of_mem hd
  have hi2 : i < ops.length := by rw [← h.len]; exact hi
  exact ⟨_, h.dat i ops[i] d (List.getElem?_eq_getElem hi2) (by rw [List.getElem?_eq_getElem hi, e])⟩
theorem PsR.lt (h : PsR base w cv ov ds cl ops) {v : Value} (hv : v ∈ cv :: ov :: ds) : ∀ k, v.ownBlock = some k → base ≤ k ∧ k < w.heap.size := by
  rcases List.mem_cons.1 hv with rfl | hv
  · exact World.ownsRow.lt h.cls
  · rcases List.mem_cons.1 hv with rfl | hv
    · exact World.ownsRow.lt h.opr
    · obtain ⟨l, hl⟩ := h.datE hv
      exact hl.lt
theorem PsR.by {row : Option Nat} (h : PsR base w cv ov ds cl ops) (hg : w.grownBy w' row) (hr : ∀ v ∈ cv :: ov :: ds, v.ownBlock = none ∨ v.ownBlock ≠ row) : PsR base w' cv ov ds cl ops :=
  ⟨h.cls.kept hg (hr _ (.head _)), h.opr.kept hg (hr _ (.tail _ (.head _))), h.len, fun i o d ho hd => (h.dat i o d ho hd).by hg (hr _ (.tail _ (.tail _ (List.mem_of_getElem? hd)))), h.apart⟩
theorem PsR.later (h : PsR base w cv ov ds cl ops) (hb : Below w.heap.size w w') : PsR base w' cv ov ds cl ops :=
  h.by (below_by hb) (fun v hv => by
    cases e : v.ownBlock with
    | none => exact .inl rfl
    | some k => exact .inr (by simp))
theorem PsR.put {b : Nat} {cs : Array Value} {t : TypeId} (h : PsR base w cv ov ds cl ops) (hP : Put w b cs t w') (hb : ∀ v ∈ cv :: ov :: ds, v.ownBlock ≠ some b) : PsR base w' cv ov ds cl ops := by
  have hk : ∀ k, k ≠ b → w'.heap[k]? = w.heap[k]? := hP.far
  refine ⟨⟨h.cls.1, h.cls.2.imp id ?_⟩, ⟨h.opr.1, h.opr.2.imp id ?_⟩, h.len, fun i o d ho hd => (h.dat i o d ho hd).put hP (hb _ (.tail _ (.tail _ (List.mem_of_getElem? hd)))), h.apart⟩
  · rintro ⟨g, cap, cur, hv, h1, h2, r⟩
    exact ⟨g, cap, cur, hv, h1, (hk g (fun e => hb _ (.head _) (by rw [hv, e]; rfl))).trans h2, r⟩
  · rintro ⟨g, cap, cur, hv, h1, h2, r⟩
    exact ⟨g, cap, cur, hv, h1, (hk g (fun e => hb _ (.tail _ (.head _)) (by rw [hv, e]; rfl))).trans h2, r⟩
theorem PsR.start (base : Nat) (w : World) : PsR base w (.slice none 0 0) (.slice none 0 0) [] [] [] :=
  ⟨World.ownsRow_nil w base _ _, World.ownsRow_nil w base _ _, rfl, (fun i o d ho => by cases ho), by
    unfold ApartV
    refine List.Pairwise.cons (fun a ha k hk => by cases hk) (List.Pairwise.cons (fun a ha => by cases ha) List.Pairwise.nil)⟩
theorem PsR.addC {cv' : Value} {c : Cl} (h : PsR base w cv ov ds cl ops) (ho : w'.ownsRow base 75 51 cv' (cl.length + 1) (flatC cl ++ clL c)) (hg : w.grownBy w' cv.ownBlock) (hb : cv'.ownBlock = cv.ownBlock ∨ ∃ k, cv'.ownBlock = some k ∧ w.heap.size ≤ k) : PsR base w' cv' ov ds (cl ++ [c]) ops := by
  have ha := h.apart
  unfold ApartV at ha
  have ha1 := (List.pairwise_cons.1 ha).1
  have ha2 := (List.pairwise_cons.1 ha).2
  have hne : ∀ v ∈ ov :: ds, v.ownBlock = none ∨ v.ownBlock ≠ cv.ownBlock := fun v hv => by
    cases e : cv.ownBlock with
    | none => cases e2 : v.ownBlock with
      | none => exact .inl rfl
      | some k => exact .inr (by simp)
    | some k => exact .inr (ha1 v hv k e)
  refine ⟨by rw [flatC_push, List.length_append]; exact ho, h.opr.kept hg (hne _ (.head _)), h.len, fun i o d ho hd => (h.dat i o d ho hd).by hg (hne _ (.tail _ (List.mem_of_getElem? hd))), ?_⟩
  unfold ApartV
  refine List.Pairwise.cons (fun v hv k hk => ?_) ha2
  rcases hb with hb | ⟨k2, hb, hk2⟩
  · exact ha1 v hv k (by rw [← hb]; exact hk)
  · intro e
    have h1 := (h.lt (List.mem_cons_of_mem _ hv) k e).2
    rw [hb] at hk
    have := Option.some.inj hk
    omega
theorem PsR.addO {ov' d : Value} {o : OpV} (h : PsR base w cv ov ds cl ops) (ho : w'.ownsRow base 52 21 ov' (ops.length + 1) (flatQ ops ds ++ opL o d)) (hg : w.grownBy w' ov.ownBlock) (hb : ov'.ownBlock = ov.ownBlock ∨ ∃ k, ov'.ownBlock = some k ∧ w.heap.size ≤ k) (hd : DV base w d o.data) (hda : ∀ v ∈ cv :: ov :: ds, ∀ k, v.ownBlock = some k → d.ownBlock ≠ some k) : PsR base w' cv ov' (ds ++ [d]) cl (ops ++ [o]) := by
  have ha := h.apart
  unfold ApartV at ha
  have ha1 := (List.pairwise_cons.1 ha).1
  have ha2 := (List.pairwise_cons.1 (List.pairwise_cons.1 ha).2).1
  have ha3 := (List.pairwise_cons.1 (List.pairwise_cons.1 ha).2).2
  have hcv : cv.ownBlock = none ∨ cv.ownBlock ≠ ov.ownBlock := by
    cases e : cv.ownBlock with
    | none => exact .inl rfl
    | some k => exact .inr (fun e2 => ha1 ov (.head _) k e (by rw [← e2]))
  have hne : ∀ v ∈ ds, v.ownBlock = none ∨ v.ownBlock ≠ ov.ownBlock := fun v hv => by
    cases e : ov.ownBlock with
    | none => cases e2 : v.ownBlock with
      | none => exact .inl rfl
      | some k => exact .inr (by simp)
    | some k => exact .inr (ha2 v hv k e)
  have hdo : d.ownBlock = none ∨ d.ownBlock ≠ ov.ownBlock := by
    cases e : ov.ownBlock with
    | none => cases e2 : d.ownBlock with
      | none => exact .inl rfl
      | some k => exact .inr (by simp)
    | some k => exact .inr (hda ov (.tail _ (.head _)) k e)
  have hlt : ∀ v ∈ cv :: ov :: (ds ++ [d]), ∀ k, v.ownBlock = some k → k < w.heap.size := by
    intro v hv k hk
    rcases List.mem_cons.1 hv with rfl | hv
    · exact (h.lt (.head _) k hk).2
    · rcases List.mem_cons.1 hv with rfl | hv
      · exact (h.lt (.tail _ (.head _)) k hk).2
      · rcases List.mem_append.1 hv with hv | hv
        · exact (h.lt (.tail _ (.tail _ hv)) k hk).2
        · simp at hv
          subst hv
          exact (hd.lt k hk).2
  refine ⟨h.cls.kept hg hcv, by rw [flatQ_push _ _ _ _ h.len, List.length_append]; exact ho, by simp [h.len], fun i x e hx he => ?_, ?_⟩
  · by_cases hi : i < ops.length
    · rw [List.getElem?_append_left hi] at hx
      rw [List.getElem?_append_left (by rw [h.len]; exact hi)] at he
      exact (h.dat i x e hx he).by hg (hne _ (List.mem_of_getElem? he))
    · rw [List.getElem?_append_right (by omega)] at hx
      rw [List.getElem?_append_right (by rw [h.len]; omega), h.len] at he
      have h0 : i - ops.length = 0 := by
        have := (List.getElem?_eq_some_iff.1 hx).1
        simp at this
        omega
      rw [h0] at hx he
      obtain rfl : o = x := by simpa using hx
      obtain rfl : d = e := by simpa using he
      exact hd.by hg hdo
  · unfold ApartV
    have hd2 : ∀ v ∈ ds ++ [d], ∀ k, ov.ownBlock = some k → v.ownBlock ≠ some k := fun v hv k hk => by
      rcases List.mem_append.1 hv with hv | hv
      · exact ha2 v hv k hk
      · simp at hv
        subst hv
        exact hda ov (.tail _ (.head _)) k hk
    have hc2 : ∀ v ∈ ds ++ [d], ∀ k, cv.ownBlock = some k → v.ownBlock ≠ some k := fun v hv k hk => by
      rcases List.mem_append.1 hv with hv | hv
      · exact ha1 v (.tail _ hv) k hk
      · simp at hv
        subst hv
        exact hda cv (.head _) k hk
    refine List.Pairwise.cons (fun v hv k hk => ?_) (List.Pairwise.cons (fun v hv k hk => ?_) ?_)
    · rcases List.mem_cons.1 hv with rfl | hv
      · rcases hb with hb | ⟨k2, hb, hk2⟩
        · rw [hb]; exact ha1 ov (.head _) k hk
        · intro e
          have h1 := hlt cv (.head _) k hk
          rw [hb] at e
          have := Option.some.inj e
          omega
      · exact hc2 v hv k hk
    · rcases hb with hb | ⟨k2, hb, hk2⟩
      · exact hd2 v hv k (by rw [← hb]; exact hk)
      · intro e
        have h1 := hlt v (.tail _ (.tail _ hv)) k e
        rw [hb] at hk
        have := Option.some.inj hk
        omega
    · rw [List.pairwise_append]
      refine ⟨ha3, List.pairwise_singleton _ _, fun a ha b hb => ?_⟩
      simp at hb
      subst hb
      exact fun k hk => hda a (.tail _ (.tail _ ha)) k hk
end
end Go.Proofs.YtijlicammbpeeaaGreatDoor
