/- A report that came in by value, opened. -/
import Derived.Test.YteagkgklnabgoaaDoorOpenS
import Derived.Test.YteagkgklnabgoaaDoorTRB
import Derived.Deep.Slices
namespace Go.Proofs.YteagkgklnabgoaaDoor
open Go.ChangeShapes Go.WideShapes Go.ChangeAt Go.RowKit Go.Deep
set_option linter.unusedVariables false
section
variable {H : Type} {enc : TypeId × Value → H} {w : World} {base fuel : Nat} {spare : Nat → Bool} {held : Bool} {cs : List Value} {x : DataW H × List MemPlace}
theorem wf_i64 {n : Int} (h : (Lit.int .i64 n).wf = true) : -9223372036854775808 ≤ n ∧ n ≤ 9223372036854775807 := by
  have e1 : IntKind.i64.min = -9223372036854775808 := by decide
  have e2 : IntKind.i64.max = 9223372036854775807 := by decide
  simpa [Lit.wf, e1, e2] using h
theorem wf_u16 {n : Int} (h : (Lit.int .u16 n).wf = true) : 0 ≤ n ∧ n ≤ 65535 := by
  have e1 : IntKind.u16.min = 0 := by decide
  have e2 : IntKind.u16.max = 65535 := by decide
  simpa [Lit.wf, e1, e2] using h
set_option maxRecDepth 10000 in
theorem open_src (h : DataW.trod enc Tryd.prog w base spare held fuel 55 cs = some x) : ∃ (b : Bool) (l : List Int) (q : Int), cs = SrcL b l q ∧ l.length = 16 ∧ Bytes l ∧ 0 ≤ q ∧ q ≤ 65535 := by
  obtain ⟨xs, m, _, _, hcl, hxl, hx⟩ := DataW.trod_struct Tryd.underlying55 h
  have hc18 : cs.length = 18 := hcl.trans (by kernel_rfl)
  have hx3 : xs.length = 3 := hxl
  obtain ⟨x0, e0⟩ := some_of_lt (hx 0 _ rfl) (by omega)
  obtain ⟨x1, e1⟩ := some_of_lt (hx 1 _ rfl) (by omega)
  obtain ⟨x2, e2⟩ := some_of_lt (hx 2 _ rfl) (by omega)
  obtain ⟨b, c0, _⟩ := DataW.trod_bool Tryd.underlying4 e0
  obtain ⟨l, c1, hl, hw⟩ := trod_ints Tryd.underlying39 Tryd.underlying5 (by kernel_rfl) (by kernel_rfl) e1
  obtain ⟨q, c2, _, wq⟩ := DataW.trod_int Tryd.underlying40 e2
  have k0 : Tryd.prog.cellsOf 4 = 1 := by kernel_rfl
  have k1 : Tryd.prog.cellsOf 39 = 16 := by kernel_rfl
  have k2 : Tryd.prog.cellsOf 40 = 1 := by kernel_rfl
  refine ⟨b, l, q, ?_, hl, bytes_of (by rw [hl]; exact hw), wf_u16 wq⟩
  replace c0 : (cs.drop 0).take (Tryd.prog.cellsOf 4) = [.bool b] := c0
  replace c1 : (cs.drop 1).take (Tryd.prog.cellsOf 39) = l.map (Value.int .u8) := c1
  replace c2 : (cs.drop 17).take (Tryd.prog.cellsOf 40) = [.int .u16 q] := c2
  rw [k0] at c0
  rw [k1] at c1
  rw [k2] at c2
  have s0 := part_split cs 0 1
  have s1 := part_split cs 1 16
  have s2 := part_last cs 17 1 hc18
  rw [c0] at s0
  rw [c1] at s1
  rw [c2] at s2
  rw [show 1 + 16 = 17 from rfl, s2] at s1
  rw [show 0 + 1 = 1 from rfl, s1] at s0
  rw [List.drop_zero] at s0
  rw [s0]
  rfl
theorem open_bytesS (h : DataW.trod enc Tryd.prog w base spare held fuel 26 cs = some x) : ∃ (a : Option Addr) (l : List Int) (c : Nat), cs = [.slice a l.length c] ∧ Bytes l ∧ l.length ≤ 9223372036854775807 ∧ RdB w a l := by
  rcases open_slice1 Tryd.underlying26 (by kernel_rfl) h with ⟨rfl, _⟩ | ⟨a, len, cap, m, n, V, D, Pl, rfl, hb, hl, hm, hmm, _, hi⟩
  · exact ⟨none, [], 0, rfl, fun i => by simp, by decide, fun i hi => absurd hi (Nat.not_lt_zero _)⟩
  · have hle : len ≤ m := by rw [hmm]; split <;> omega
    obtain ⟨f, hf⟩ := choose_lt (α := Int) (n := len) (p := fun i z => V i = .int .u8 z ∧ (Lit.int .u8 z).wf = true) (fun i hil => by
      obtain ⟨z, hz, _, hw⟩ := DataW.trod_int Tryd.underlying5 (hi i (by omega)).2
      exact ⟨z, by simpa using hz, hw⟩)
    have hlen : ((List.range len).map f).length = len := by simp
    have hget : ∀ i, i < len → ((List.range len).map f).getD i 0 = f i := fun i hil => by simp [List.getD_eq_getElem?_getD, hil]
    refine ⟨some a, (List.range len).map f, cap, by rw [hlen], bytes_of (fun i hil => ?_), by rw [hlen]; unfold maxLen at hm; omega, fun i hil => ?_⟩
    · rw [hlen] at hil
      rw [hget i hil]
      exact (hf i hil).2
    · rw [hlen] at hil
      have h1 := (hi i (by omega)).1
      rw [(hf i hil).1] at h1
      have g0 := (hi 0 (by omega)).1
      have hsp := World.cell?_spot g0
      obtain ⟨b, o, sp⟩ := a
      have hsp2 : sp = none := by
        cases sp with
        | none => rfl
        | some z => simp [Addr.add] at hsp
      subst hsp2
      have hadd : ∀ k, (⟨b, o, none⟩ : Addr).add k = ⟨b, o + k, none⟩ := fun k => by unfold Addr.add; split <;> simp_all
      rw [hadd] at h1
      exact ⟨b, o, rfl, World.block_lt_of_cell? _ _ h1, by rw [hget i hil]; exact h1⟩
set_option maxRecDepth 10000 in
theorem open_obs (h : DataW.trod enc Tryd.prog w base spare held fuel 57 cs = some x) : ∃ (o : Ob) (a : Option Addr) (c : Nat), cs = obL o a c ∧ RdB w a o.out := by
  obtain ⟨xs, m, _, _, hcl, hxl, hx⟩ := DataW.trod_struct Tryd.underlying57 h
  have hc87 : cs.length = 87 := hcl.trans (by kernel_rfl)
  have hx8 : xs.length = 8 := hxl
  obtain ⟨x0, e0⟩ := some_of_lt (hx 0 _ rfl) (by omega)
  obtain ⟨x1, e1⟩ := some_of_lt (hx 1 _ rfl) (by omega)
  obtain ⟨x2, e2⟩ := some_of_lt (hx 2 _ rfl) (by omega)
  obtain ⟨x3, e3⟩ := some_of_lt (hx 3 _ rfl) (by omega)
  obtain ⟨x4, e4⟩ := some_of_lt (hx 4 _ rfl) (by omega)
  obtain ⟨x5, e5⟩ := some_of_lt (hx 5 _ rfl) (by omega)
  obtain ⟨x6, e6⟩ := some_of_lt (hx 6 _ rfl) (by omega)
  obtain ⟨x7, e7⟩ := some_of_lt (hx 7 _ rfl) (by omega)
  obtain ⟨v, c0, _, wv⟩ := DataW.trod_int Tryd.underlying3 e0
  obtain ⟨d, c1, _, wd⟩ := DataW.trod_int Tryd.underlying3 e1
  obtain ⟨ld, c2, _⟩ := DataW.trod_bool Tryd.underlying4 e2
  obtain ⟨v6, ad, po, c3, hal, hab, hpo⟩ := open_src e3
  obtain ⟨a, out, c, c4, hob, hol, hrd⟩ := open_bytesS e4
  obtain ⟨cl, c5, _, wc⟩ := DataW.trod_int Tryd.underlying3 e5
  obtain ⟨ch, c6, hcl6, hw6⟩ := trod_ints Tryd.underlying43 Tryd.underlying5 (by kernel_rfl) (by kernel_rfl) e6
  obtain ⟨hs, c7, hcl7, hw7⟩ := trod_ints Tryd.underlying43 Tryd.underlying5 (by kernel_rfl) (by kernel_rfl) e7
  have k0 : Tryd.prog.cellsOf 3 = 1 := by kernel_rfl
  have k2 : Tryd.prog.cellsOf 4 = 1 := by kernel_rfl
  have k3 : Tryd.prog.cellsOf 55 = 18 := by kernel_rfl
  have k4 : Tryd.prog.cellsOf 26 = 1 := by kernel_rfl
  have k6 : Tryd.prog.cellsOf 43 = 32 := by kernel_rfl
  refine ⟨⟨v, d, ld, v6, ad, po, out, cl, ch, hs, wf_i64 wv, wf_i64 wd, wf_i64 wc, hpo, hal, hcl6, hcl7, hab, hob, bytes_of (by rw [hcl6]; exact hw6), bytes_of (by rw [hcl7]; exact hw7), hol⟩, a, c, ?_, hrd⟩
  replace c0 : (cs.drop 0).take (Tryd.prog.cellsOf 3) = [.int .i64 v] := c0
  replace c1 : (cs.drop 1).take (Tryd.prog.cellsOf 3) = [.int .i64 d] := c1
  replace c2 : (cs.drop 2).take (Tryd.prog.cellsOf 4) = [.bool ld] := c2
  replace c3 : (cs.drop 3).take (Tryd.prog.cellsOf 55) = SrcL v6 ad po := c3
  replace c4 : (cs.drop 21).take (Tryd.prog.cellsOf 26) = [.slice a out.length c] := c4
  replace c5 : (cs.drop 22).take (Tryd.prog.cellsOf 3) = [.int .i64 cl] := c5
  replace c6 : (cs.drop 23).take (Tryd.prog.cellsOf 43) = ch.map (Value.int .u8) := c6
  replace c7 : (cs.drop 55).take (Tryd.prog.cellsOf 43) = hs.map (Value.int .u8) := c7
  rw [k0] at c0 c1 c5
  rw [k2] at c2
  rw [k3] at c3
  rw [k4] at c4
  rw [k6] at c6 c7
  have s0 := part_split cs 0 1
  have s1 := part_split cs 1 1
  have s2 := part_split cs 2 1
  have s3 := part_split cs 3 18
  have s4 := part_split cs 21 1
  have s5 := part_split cs 22 1
  have s6 := part_split cs 23 32
  have s7 := part_last cs 55 32 hc87
  rw [c0] at s0
  rw [c1] at s1
  rw [c2] at s2
  rw [c3] at s3
  rw [c4] at s4
  rw [c5] at s5
  rw [c6] at s6
  rw [c7] at s7
  rw [show 23 + 32 = 55 from rfl, s7] at s6
  rw [show 22 + 1 = 23 from rfl, s6] at s5
  rw [show 21 + 1 = 22 from rfl, s5] at s4
  rw [show 3 + 18 = 21 from rfl, s4] at s3
  rw [show 2 + 1 = 3 from rfl, s3] at s2
  rw [show 1 + 1 = 2 from rfl, s2] at s1
  rw [show 0 + 1 = 1 from rfl, s1] at s0
  rw [List.drop_zero] at s0
  rw [s0]
  rfl
end
set_option maxRecDepth 10000 in
theorem open_report {H : Type} {enc : TypeId × Value → H} {w : World} {base b0 : Nat} {spare : Nat → Bool} {held : Bool} {r : Reach} {v : Value} {d : DataW H} {p : List MemPlace}
    (hv : Value.okWide Tryd.prog w r b0 24 v) (h : DataW.Trod enc Tryd.prog w base spare held 24 v d p) :
    ∃ (m s : Int) (a : Option Addr) (n cap : Nat) (os : List Ob), v = .agg #[.slice a n cap, .int .i64 m, .int .i64 s] ∧ os.length = n ∧ n ≤ 9223372036854775807 ∧ HO w a os ∧ (-9223372036854775808 ≤ m ∧ m ≤ 9223372036854775807) ∧ (-9223372036854775808 ≤ s ∧ s ≤ 9223372036854775807) := by
  obtain ⟨cs, xs, m, rfl, hcl, hxl, hx⟩ := open_struct Tryd.underlying24 hv h
  have hc3 : cs.length = 3 := hcl.trans (by kernel_rfl)
  have hx3 : xs.length = 3 := hxl
  obtain ⟨x0, e0⟩ := some_of_lt (hx 0 _ rfl) (by omega)
  obtain ⟨x1, e1⟩ := some_of_lt (hx 1 _ rfl) (by omega)
  obtain ⟨x2, e2⟩ := some_of_lt (hx 2 _ rfl) (by omega)
  obtain ⟨t, c1, _, wt⟩ := DataW.trod_int Tryd.underlying3 e1
  obtain ⟨q, c2, _, wq⟩ := DataW.trod_int Tryd.underlying3 e2
  have k1 : Tryd.prog.cellsOf 3 = 1 := by kernel_rfl
  have k2 : Tryd.prog.cellsOf 22 = 1 := by kernel_rfl
  have k3 : Tryd.prog.cellsOf 57 = 87 := by kernel_rfl
  replace c1 : (cs.drop 1).take (Tryd.prog.cellsOf 3) = [.int .i64 t] := c1
  replace c2 : (cs.drop 2).take (Tryd.prog.cellsOf 3) = [.int .i64 q] := c2
  rw [k1] at c1 c2
  have fin : ∀ (a : Option Addr) (n cap : Nat), (cs.drop 0).take (Tryd.prog.cellsOf 22) = [.slice a n cap] → cs = [.slice a n cap, .int .i64 t, .int .i64 q] := fun a n cap c0 => by
    rw [k2] at c0
    have s0 := part_split cs 0 1
    have s1 := part_split cs 1 1
    have s2 := part_last cs 2 1 hc3
    rw [c0] at s0
    rw [c1] at s1
    rw [c2] at s2
    rw [show 1 + 1 = 2 from rfl, s2] at s1
    rw [show 0 + 1 = 1 from rfl, s1] at s0
    rw [List.drop_zero] at s0
    exact s0
  rcases open_slice Tryd.underlying22 e0 with ⟨c0, _⟩ | ⟨a, len, cap, mm, nn, D, Pl', c0, hb, hl, hm, hmm, _, hi⟩
  · refine ⟨t, q, none, 0, 0, [], ?_, rfl, Nat.zero_le _, HO.nil _ _, wf_i64 wt, wf_i64 wq⟩
    rw [fin none 0 0 c0]
  · have hle : len ≤ mm := by rw [hmm]; split <;> omega
    obtain ⟨f, hf⟩ := choose_lt (α := Ob × Option Addr × Nat) (n := len) (p := fun i z => w.cells? base (a.add (i * 87)) 87 = some (obL z.1 z.2.1 z.2.2) ∧ RdB w z.2.1 z.1.out) (fun i hil => by
      obtain ⟨cs', h1, h2⟩ := hi i (by omega)
      obtain ⟨o, b, c, rfl, hrd⟩ := open_obs h2
      rw [k3] at h1
      exact ⟨(o, b, c), h1, hrd⟩)
    refine ⟨t, q, some a, len, cap, (List.range len).map (fun i => (f i).1), ?_, by simp, by unfold maxLen at hm; omega, fun i hil => ?_, wf_i64 wt, wf_i64 wq⟩
    · rw [fin (some a) len cap c0]
    · have hil2 : i < len := by simpa using hil
      have h1 := World.cells?_some (hf i hil2).1
      have hcell : ∀ j, j < 87 → w.cell? (a.add (i * 87 + j)) = (obL (f i).1 (f i).2.1 (f i).2.2)[j]? := fun j hj => by
        rw [← h1.2.2 j hj, add_add]
      have h0 := hcell 0 (by decide)
      have hl0 : 0 < (obL (f i).1 (f i).2.1 (f i).2.2).length := by rw [obL_length]; decide
      rw [List.getElem?_eq_getElem hl0] at h0
      have g1 := World.cells?_some (hf 0 (by omega)).1
      have g0 := g1.2.2 0 (by decide)
      have gl0 : 0 < (obL (f 0).1 (f 0).2.1 (f 0).2.2).length := by rw [obL_length]; decide
      rw [List.getElem?_eq_getElem gl0] at g0
      have hsp := World.cell?_spot g0
      obtain ⟨b, o, sp⟩ := a
      have hsp2 : sp = none := by
        cases sp with
        | none => rfl
        | some z => simp [Addr.add] at hsp
      subst hsp2
      have hadd : ∀ k, (⟨b, o, none⟩ : Addr).add k = ⟨b, o + k, none⟩ := fun k => by unfold Addr.add; split <;> simp_all
      have hos : ((List.range len).map (fun i => (f i).1))[i] = (f i).1 := by simp
      rw [hos]
      refine ⟨b, o, (f i).2.1, (f i).2.2, rfl, ?_, fun j v hj => ?_, (hf i hil2).2⟩
      · rw [hadd] at h0
        exact World.block_lt_of_cell? _ _ h0
      · have hj2 : j < 87 := by
          have := (List.getElem?_eq_some_iff.1 hj).1
          rwa [obL_length] at this
        have h2 := hcell j hj2
        rw [hadd, ← Nat.add_assoc] at h2
        rw [h2]
        simpa using hj
end Go.Proofs.YteagkgklnabgoaaDoor
