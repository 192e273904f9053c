/- A limiter that came in by value, opened. -/
import Derived.Test.YtcjbenmbenkcpaaOpenS
import Derived.Test.YtcjbenmbenkcpaaLiB
import Derived.Deep.Slices
namespace Go.Proofs.Ytcjbenmbenkcpaa
open Go.ChangeShapes Go.WideShapes Go.ChangeAt Go.RowKit Go.Deep
set_option linter.unusedVariables false
theorem byt_of {l : List Int} (h : Bytes l) : ∀ x ∈ l, 0 ≤ x ∧ x < 256 := fun x hx => by
  obtain ⟨i, hi, rfl⟩ := List.mem_iff_getElem.1 hx
  have h1 := h i
  simp [List.getD_eq_getElem?_getD, hi] at h1
  omega
set_option maxRecDepth 10000 in
theorem open_bucket {H : Type} {enc : TypeId × Value → H} {w : World} {base fuel : Nat} {spare : Nat → Bool} {held : Bool} {cs : List Value} {x : DataW H × List MemPlace}
    (h : DataW.trod enc Try.prog w base spare held fuel 74 cs = some x) : ∃ b : Bk, cs = bkL b := by
  obtain ⟨xs, m, _, _, hcl, hxl, hx⟩ := DataW.trod_struct Try.underlying74 h
  have hc11 : cs.length = 11 := hcl.trans (by kernel_rfl)
  have hx3 : xs.length = 3 := hxl
  obtain ⟨x0, e0⟩ := some_of_lt (hx 0 _ rfl) (by omega)
  obtain ⟨x1, e1⟩ := some_of_lt (hx 1 _ rfl) (by omega)
  obtain ⟨x2, e2⟩ := some_of_lt (hx 2 _ rfl) (by omega)
  obtain ⟨l, c0, hl, hw⟩ := trod_ints Try.underlying33 Try.underlying5 (by kernel_rfl) (by kernel_rfl) e0
  obtain ⟨t, c1, _, wt⟩ := DataW.trod_int Try.underlying3 e1
  obtain ⟨q, c2, _, wq⟩ := DataW.trod_int Try.underlying3 e2
  have k0 : Try.prog.cellsOf 33 = 9 := by kernel_rfl
  have k1 : Try.prog.cellsOf 3 = 1 := by kernel_rfl
  refine ⟨⟨l, t, q, hl, fun y hy => ?_⟩, ?_⟩
  · obtain ⟨i, hi, rfl⟩ := List.mem_iff_getElem.1 hy
    have h1 := hw i (by omega)
    have e1 : IntKind.u8.min = 0 := by decide
    have e2 : IntKind.u8.max = 255 := by decide
    simp [Lit.wf, e1, e2, List.getD_eq_getElem?_getD, hi] at h1
    omega
  replace c0 : (cs.drop 0).take (Try.prog.cellsOf 33) = l.map (Value.int .u8) := c0
  replace c1 : (cs.drop 9).take (Try.prog.cellsOf 3) = [.int .i64 t] := c1
  replace c2 : (cs.drop 10).take (Try.prog.cellsOf 3) = [.int .i64 q] := c2
  rw [k0] at c0
  rw [k1] at c1 c2
  have s0 := part_split cs 0 9
  have s1 := part_split cs 9 1
  have s2 := part_last cs 10 1 hc11
  rw [c0] at s0
  rw [c1] at s1
  rw [c2] at s2
  rw [show 9 + 1 = 10 from rfl, s2] at s1
  rw [show 0 + 9 = 9 from rfl, s1] at s0
  rw [List.drop_zero] at s0
  rw [s0]
  rfl
set_option maxRecDepth 10000 in
theorem open_limiter {H : Type} {enc : TypeId × Value → H} {w : World} {base b0 : Nat} {spare : Nat → Bool} {held : Bool} {r : Reach} {v : Value} {d : DataW H} {p : List MemPlace}
    (hv : Value.okWide Try.prog w r b0 41 v) (h : DataW.Trod enc Try.prog w base spare held 41 v d p) :
    ∃ (m s : Int) (a : Option Addr) (n cap : Nat) (bs : List Bk), v = .agg #[.int .i64 m, .int .i64 s, .slice a n cap] ∧ bs.length = n ∧ n ≤ maxLen ∧ HB w a bs := by
  obtain ⟨cs, xs, m, rfl, hcl, hxl, hx⟩ := open_struct Try.underlying41 hv h
  have hc3 : cs.length = 3 := hcl.trans (by kernel_rfl)
  have hx3 : xs.length = 3 := hxl
  obtain ⟨x0, e0⟩ := some_of_lt (hx 0 _ rfl) (by omega)
  obtain ⟨x1, e1⟩ := some_of_lt (hx 1 _ rfl) (by omega)
  obtain ⟨x2, e2⟩ := some_of_lt (hx 2 _ rfl) (by omega)
  obtain ⟨t, c0, _, wt⟩ := DataW.trod_int Try.underlying3 e0
  obtain ⟨q, c1, _, wq⟩ := DataW.trod_int Try.underlying3 e1
  have k1 : Try.prog.cellsOf 3 = 1 := by kernel_rfl
  have k2 : Try.prog.cellsOf 39 = 1 := by kernel_rfl
  have k3 : Try.prog.cellsOf 74 = 11 := by kernel_rfl
  replace c0 : (cs.drop 0).take (Try.prog.cellsOf 3) = [.int .i64 t] := c0
  replace c1 : (cs.drop 1).take (Try.prog.cellsOf 3) = [.int .i64 q] := c1
  rw [k1] at c0 c1
  have fin : ∀ (a : Option Addr) (n cap : Nat), (cs.drop 2).take (Try.prog.cellsOf 39) = [.slice a n cap] → cs = [.int .i64 t, .int .i64 q, .slice a n cap] := fun a n cap c2 => by
    rw [k2] at c2
    have s0 := part_split cs 0 1
    have s1 := part_split cs 1 1
    have s2 := part_last cs 2 1 hc3
    rw [c0] at s0
    rw [c1] at s1
    rw [c2] at s2
    rw [show 1 + 1 = 2 from rfl, s2] at s1
    rw [show 0 + 1 = 1 from rfl, s1] at s0
    rw [List.drop_zero] at s0
    exact s0
  rcases open_slice Try.underlying39 e2 with ⟨c2, _⟩ | ⟨a, len, cap, mm, nn, D, Pl', c2, hb, hl, hm, hmm, _, hi⟩
  · refine ⟨t, q, none, 0, 0, [], ?_, rfl, Nat.zero_le _, HB.nil _ _⟩
    rw [fin none 0 0 c2]
  · have hle : len ≤ mm := by rw [hmm]; split <;> omega
    obtain ⟨f, hf⟩ := choose_lt (α := Bk) (n := len) (p := fun i b => w.cells? base (a.add (i * 11)) 11 = some (bkL b)) (fun i hil => by
      obtain ⟨cs', h1, h2⟩ := hi i (by omega)
      obtain ⟨b, rfl⟩ := open_bucket h2
      rw [k3] at h1
      exact ⟨b, h1⟩)
    refine ⟨t, q, some a, len, cap, (List.range len).map f, ?_, by simp, by omega, fun i hil => ?_⟩
    · rw [fin (some a) len cap c2]
    · have hil2 : i < len := by simpa using hil
      have h1 := World.cells?_some (hf i hil2)
      have hcell : ∀ j, j < 11 → w.cell? (a.add (i * 11 + j)) = (bkL (f i))[j]? := fun j hj => by
        rw [← h1.2.2 j hj, add_add]
      have h0 := hcell 0 (by decide)
      have hl0 : 0 < (bkL (f i)).length := by rw [bkL_length]; decide
      rw [List.getElem?_eq_getElem hl0] at h0
      have g1 := World.cells?_some (hf 0 (by omega))
      have g0 := g1.2.2 0 (by decide)
      have gl0 : 0 < (bkL (f 0)).length := by rw [bkL_length]; decide
      rw [List.getElem?_eq_getElem gl0] at g0
      have hsp := World.cell?_spot g0
      obtain ⟨b, o, sp⟩ := a
      have hsp2 : sp = none := by
        cases sp with
        | none => rfl
        | some z => simp [Addr.add] at hsp
      subst hsp2
      have hadd : ∀ k, (⟨b, o, none⟩ : Addr).add k = ⟨b, o + k, none⟩ := fun k => by unfold Addr.add; split <;> simp_all
      refine ⟨b, o, rfl, ?_, fun j v hj => ?_⟩
      · rw [hadd] at h0
        exact World.block_lt_of_cell? _ _ h0
      · have hj2 : j < 11 := by
          have := (List.getElem?_eq_some_iff.1 hj).1
          rwa [bkL_length] at this
        have h2 := hcell j hj2
        rw [hadd, ← Nat.add_assoc] at h2
        rw [h2]
        simpa using hj
end Go.Proofs.Ytcjbenmbenkcpaa
