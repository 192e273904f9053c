import Derived.Test.YtgpjdbkdnojbhaaDoorOpen
import Derived.Test.YtgpjdbkdnojbhaaDoorBytes
import Derived.Test.YtgpjdbkdnojbhaaDoorCKA
import Derived.Test.YtgpjdbkdnojbhaaDoorCards
import Derived.Test.YtgpjdbkdnojbhaaDoorTie
import Derived.WalkKit
import Derived.Deep.DeepLaidRun
import Derived.ProofKit
import Derived.OpenShut
import Derived.OpenVars
import Derived.Deep.DeepHandedRow
import Derived.Lib.LaidTab
import Derived.Test.YtgpjdbkdnojbhaaDoorCKB
import Derived.Test.YtgpjdbkdnojbhaaDoorBTab
namespace Go.Proofs.YtgpjdbkdnojbhaaDoor
open Go.ChangeShapes Go.WideShapes Go.ChangeAt Go.RowKit
set_option linter.unusedVariables false

theorem trod_ints {H : Type} {enc : TypeId × Value → H} {P : Program} {w : World} {base n fuel : Nat} {spare : Nat → Bool} {held : Bool} {t e : TypeId} {k : IntKind} {cs : List Value} {x : DataW H × List MemPlace}
    (ht : P.underlying t = some (.array n e)) (he : P.underlying e = some (.int k)) (hce : P.cellsOf e = 1) (hn : P.cellsOf t = n) (h : DataW.trod enc P w base spare held fuel t cs = some x) :
    ∃ l : List Int, cs = l.map (Value.int k) ∧ l.length = n ∧ ∀ i, i < n → (Lit.int k (l.getD i 0)).wf = true := by
  obtain ⟨xs, m, _, _, hlen, hxl, hx⟩ := DataW.trod_array ht h
  have hsize : cs.length = n := by rw [← hn]; exact hlen
  have hcell : ∀ i, i < n → ∃ a, cs[i]? = some (.int k a) ∧ (Lit.int k a).wf = true := by
    intro i hi
    have h1 := hx i hi
    rw [hce, Nat.mul_one, List.getElem?_eq_getElem (show i < xs.length by omega)] at h1
    obtain ⟨a, ea, _, wa⟩ := DataW.trod_int he h1
    have hd : (cs.drop i).take 1 = [cs[i]'(by omega)] := by
      rw [List.drop_eq_getElem_cons (show i < cs.length by omega)]
      rfl
    rw [hd] at ea
    simp only [List.cons.injEq, and_true] at ea
    exact ⟨a, by rw [List.getElem?_eq_getElem (by omega), ea], wa⟩
  refine ⟨cs.map intIn, ?_, by simp [hsize], ?_⟩
  · apply List.ext_getElem
    · simp
    · intro i h1 h2
      obtain ⟨a, ha, _⟩ := hcell i (by omega)
      rw [List.getElem?_eq_getElem h1] at ha
      simp only [Option.some.injEq] at ha
      simp [ha, intIn]
  · intro i hi
    obtain ⟨a, ha, wa⟩ := hcell i hi
    simp [ha, intIn, wa]
/-- A struct by value: its cells. -/
theorem open_struct {H : Type} {enc : TypeId × Value → H} {P : Program} {w : World} {base b0 : Nat} {spare : Nat → Bool} {held : Bool} {r : Reach} {t : TypeId} {fs : Array Field} {v : Value} {d : DataW H} {p : List MemPlace}
    (ht : P.underlying t = some (.struct fs)) (hv : Value.okWide P w r b0 t v) (h : DataW.Trod enc P w base spare held t v d p) :
    ∃ (cs : List Value) (xs : List (DataW H × List MemPlace)) (m : Nat), v = .agg cs.toArray ∧ cs.length = P.cellsOf t ∧ xs.length = fs.size ∧
      ∀ (i : Nat) (f : Field), fs[i]? = some f → DataW.trod enc P w base spare held m f.type ((cs.drop f.offset).take (P.cellsOf f.type)) = xs[i]? := by
  simp only [Value.okWide, ht] at hv
  obtain ⟨cs, rfl, hsz, _⟩ := hv
  obtain ⟨fuel, hf⟩ := h
  obtain ⟨xs, m, _, _, hlen, hxl, hx⟩ := DataW.trod_struct ht hf
  simp only [Value.cells] at hlen hx
  exact ⟨cs.toList, xs, m, by simp, hlen, hxl, hx⟩
/-- A field's reading is some reading. -/
theorem some_of_lt {α : Type} {o : Option α} {xs : List α} {i : Nat} (h : o = xs[i]?) (hi : i < xs.length) : ∃ x, o = some x := ⟨xs[i], by rw [h, List.getElem?_eq_getElem hi]⟩
theorem part_split (l : List Value) (a b : Nat) : l.drop a = (l.drop a).take b ++ l.drop (a + b) := by
  rw [← List.drop_drop]
  exact (List.take_append_drop b (l.drop a)).symm
theorem part_last (l : List Value) (a b : Nat) (h : l.length = a + b) : l.drop a = (l.drop a).take b := by
  rw [List.take_of_length_le (by simp; omega)]
end Go.Proofs.YtgpjdbkdnojbhaaDoor
namespace Go.Proofs.YtgpjdbkdnojbhaaDoor
open Go.ChangeShapes Go.WideShapes Go.ChangeAt Go.RowKit
set_option linter.unusedVariables false
set_option maxRecDepth 10000 in
theorem open_source {H : Type} {enc : TypeId × Value → H} {w : World} {base b0 : Nat} {spare : Nat → Bool} {held : Bool} {r : Reach} {v : Value} {d : DataW H} {p : List MemPlace}
    (hv : Value.okWide Tryd.prog w r b0 45 v) (h : DataW.Trod enc Tryd.prog w base spare held 45 v d p) :
    ∃ (b : Bool) (l : List Int) (q : Int), v = .agg (SrcL b l q).toArray ∧ l.length = 16 ∧ Bytes l ∧ (Lit.int .u16 q).wf = true := by
  obtain ⟨cs, xs, m, rfl, hcl, hxl, hx⟩ := open_struct Tryd.underlying45 hv h
  have hc18 : cs.length = 18 := hcl.trans (by kernel_rfl)
  have hx3 : xs.length = 3 := hxl
  obtain ⟨x0, e0⟩ := some_of_lt (hx 0 _ rfl) (by omega)
  obtain ⟨x1, e1⟩ := some_of_lt (hx 1 _ rfl) (by omega)
  obtain ⟨x2, e2⟩ := some_of_lt (hx 2 _ rfl) (by omega)
  obtain ⟨b, c0, _⟩ := DataW.trod_bool Tryd.underlying4 e0
  obtain ⟨l, c1, hl, hw⟩ := trod_ints Tryd.underlying29 Tryd.underlying5 (by kernel_rfl) (by kernel_rfl) e1
  obtain ⟨q, c2, _, wq⟩ := DataW.trod_int Tryd.underlying43 e2
  have k0 : Tryd.prog.cellsOf 4 = 1 := by kernel_rfl
  have k1 : Tryd.prog.cellsOf 29 = 16 := by kernel_rfl
  have k2 : Tryd.prog.cellsOf 43 = 1 := by kernel_rfl
  refine ⟨b, l, q, ?_, hl, bytes_of (by rw [hl]; exact hw), wq⟩
  replace c0 : (cs.drop 0).take (Tryd.prog.cellsOf 4) = [.bool b] := c0
  replace c1 : (cs.drop 1).take (Tryd.prog.cellsOf 29) = l.map (Value.int .u8) := c1
  replace c2 : (cs.drop 17).take (Tryd.prog.cellsOf 43) = [.int .u16 q] := c2
  rw [k0] at c0
  rw [k1] at c1
  rw [k2] at c2
  have s0 := part_split cs 0 1
  have s1 := part_split cs 1 16
  have s2 := part_last cs 17 1 hc18
  rw [c0] at s0
  rw [c1] at s1
  rw [c2] at s2
  rw [show 1 + 16 = 17 from rfl, s2] at s1
  rw [show 0 + 1 = 1 from rfl, s1] at s0
  rw [List.drop_zero] at s0
  rw [s0]
  rfl
end Go.Proofs.YtgpjdbkdnojbhaaDoor
namespace Go.Proofs.YtgpjdbkdnojbhaaDoor
open Go.ChangeShapes Go.WideShapes Go.ChangeAt Go.RowKit
set_option linter.unusedVariables false

theorem fnExactCookieOf_own : ownKnob Tryd.prog.godebug = none := by kernel_rfl
theorem fnExactCookieOf_laidOut : laidOutB Tryd.prog = true := by kernel_rfl
theorem fnExactCookieOf_table {W : World} (h : laidMetH Tryd.prog Rows.fnExactCookieOfRow.laid W) : Tabs W := tabs_of_laid h
theorem fnExactCookieOf_three {H : Type} {enc : TypeId × Value → H} {P : Program} {w : World} {spare : Nat → Bool} {a b c : String} {gs : List (DataW H)} {ps : List MemPlace} (h : DataW.TrodVars enc P w spare [a, b, c] gs ps) : ∃ x y z, gs = [x, y, z] := by
  cases gs with
  | nil => simp [DataW.TrodVars] at h
  | cons x gs =>
    obtain ⟨_, _, _, _, _, _, _, _, _, _, h, _⟩ := h
    cases gs with
    | nil => simp [DataW.TrodVars] at h
    | cons y gs =>
      obtain ⟨_, _, _, _, _, _, _, _, _, _, h, _⟩ := h
      obtain ⟨_, _, _, _, d, _, e, _⟩ := trodVars_one h
      exact ⟨x, y, d, by rw [e]⟩
set_option maxRecDepth 100000 in
theorem fnExactCookieOf_contract (H : Type) (enc : TypeId × Value → H) (W : World) (base : Nat) (args : Array Value) (ds gs : List (DataW H)) (before : List MemPlace)
    (hval : ∀ (j : Nat) t v, Tryd.f8.params[j]? = some t → args[j]? = some v → Value.okWide Tryd.prog W .any base t v)
    (hW : DataW.Whole enc Tryd.prog Tryd.f8.params.toList Rows.fnExactCookieOfSpec.vars false W args.toList ds gs before) (hL : laidMetH Tryd.prog Rows.fnExactCookieOfRow.laid W) :
    Calls Tryd.prog 8 args W fun e W' => ∃ v, e = .returned v ∧ Rows.fnExactCookieOfSpec.post enc Tryd.prog Tryd.f8 false true false false W args v W' := by
  have hW' := hW
  obtain ⟨p, q, hA0, hV0, rfl, hfz, hnd⟩ := hW
  have hA : DataW.TrodAll enc Tryd.prog W 0 (fun _ => true) true Tryd.f8.params.toList args.toList ds p := hA0
  have hV : DataW.TrodVars enc Tryd.prog W (fun _ => true) ["loop.example/s02974/impl.blakeStart", "loop.example/s02974/impl.mixPlaces", "loop.example/s02974/impl.blakeOrder"] gs q := hV0
  rw [Tryd.params8] at hA hval
  obtain ⟨v0, vs0, d0, ds0, p0, q0, hargs, rfl, rfl, h0, r0⟩ := trodAll_cons hA
  obtain ⟨v1, vs1, d1, ds1, p1, q1, rfl, rfl, rfl, h1, r1⟩ := trodAll_cons r0
  obtain ⟨rfl, rfl, rfl⟩ := trodAll_nil r1
  obtain rfl : args = #[v0, v1] := by cases args; simp_all
  have k0 := h0
  have lt0 : ∀ x ∈ p0, x.block < W.heap.size := by obtain ⟨m, hm⟩ := k0; exact DataW.trod_lt m _ _ _ hm
  have k1 := h1
  have lt1 : ∀ x ∈ p1, x.block < W.heap.size := by obtain ⟨m, hm⟩ := k1; exact DataW.trod_lt m _ _ _ hm
  obtain ⟨l0, rfl, hl0, hlw0⟩ := open_ints_array Tryd.underlying23 Tryd.underlying5 (by kernel_rfl) (by kernel_rfl) (hval 0 23 v0 rfl rfl) h0
  have hlb0 : Bytes l0 := bytes_of (by rw [hl0]; exact hlw0)
  obtain ⟨b, l, q, rfl, hl, hlb, hq⟩ := open_source (hval 1 45 v1 rfl rfl) h1
  have bq := bounds_u16 hq
  clear hA0
  have ht := fnExactCookieOf_table hL
  refine (cookieOf_walk l0 hl0 hlb0 b l q hl hlb bq.1 bq.2 W ht).mono fun e W' ⟨he, bel⟩ => ?_
  subst he
  have hvars := Below.trodVars fnExactCookieOf_laidOut bel (by kernel_rfl) hV
  obtain ⟨x1, x2, x3, hgd⟩ := fnExactCookieOf_three hV
  subst hgd
  exact ⟨_, rfl, _, _, _, [], _, _, hW', trodAll_mk1 (shut_bool Tryd.underlying4 _), (trodAll_cons_mk (Below.trod fnExactCookieOf_laidOut (by kernel_rfl) (of_decide_eq_true (by kernel_rfl)) k0 bel lt0) (trodAll_cons_mk (Below.trod fnExactCookieOf_laidOut (by kernel_rfl) (of_decide_eq_true (by kernel_rfl)) k1 bel lt1) trodAll_mk0)), hvars, bel.frame _, fun h => by cases h⟩

noncomputable def fnExactCookieOf_world (os : Os) : World :=
  { World.holding Tryd.prog os ⟨#[], #[], []⟩ with heap := ((((World.holding Tryd.prog os ⟨#[], #[], []⟩).heap.modify 0 fun
      | .cells _ t frozen => .cells #[.int .u32 1779033703, .int .u32 3144134277, .int .u32 1013904242, .int .u32 2773480762, .int .u32 1359893119, .int .u32 2600822924, .int .u32 528734635, .int .u32 1541459225] t frozen
      | o => o).modify 1 fun
      | .cells _ t frozen => .cells #[.int .u8 0, .int .u8 4, .int .u8 8, .int .u8 12, .int .u8 1, .int .u8 5, .int .u8 9, .int .u8 13, .int .u8 2, .int .u8 6, .int .u8 10, .int .u8 14, .int .u8 3, .int .u8 7, .int .u8 11, .int .u8 15, .int .u8 0, .int .u8 5, .int .u8 10, .int .u8 15, .int .u8 1, .int .u8 6, .int .u8 11, .int .u8 12, .int .u8 2, .int .u8 7, .int .u8 8, .int .u8 13, .int .u8 3, .int .u8 4, .int .u8 9, .int .u8 14] t frozen
      | o => o).modify 2 fun
      | .cells _ t frozen => .cells #[.int .u8 0, .int .u8 1, .int .u8 2, .int .u8 3, .int .u8 4, .int .u8 5, .int .u8 6, .int .u8 7, .int .u8 8, .int .u8 9, .int .u8 10, .int .u8 11, .int .u8 12, .int .u8 13, .int .u8 14, .int .u8 15, .int .u8 14, .int .u8 10, .int .u8 4, .int .u8 8, .int .u8 9, .int .u8 15, .int .u8 13, .int .u8 6, .int .u8 1, .int .u8 12, .int .u8 0, .int .u8 2, .int .u8 11, .int .u8 7, .int .u8 5, .int .u8 3, .int .u8 11, .int .u8 8, .int .u8 12, .int .u8 0, .int .u8 5, .int .u8 2, .int .u8 15, .int .u8 13, .int .u8 10, .int .u8 14, .int .u8 3, .int .u8 6, .int .u8 7, .int .u8 1, .int .u8 9, .int .u8 4, .int .u8 7, .int .u8 9, .int .u8 3, .int .u8 1, .int .u8 13, .int .u8 12, .int .u8 11, .int .u8 14, .int .u8 2, .int .u8 6, .int .u8 5, .int .u8 10, .int .u8 4, .int .u8 0, .int .u8 15, .int .u8 8, .int .u8 9, .int .u8 0, .int .u8 5, .int .u8 7, .int .u8 2, .int .u8 4, .int .u8 10, .int .u8 15, .int .u8 14, .int .u8 1, .int .u8 11, .int .u8 12, .int .u8 6, .int .u8 8, .int .u8 3, .int .u8 13, .int .u8 2, .int .u8 12, .int .u8 6, .int .u8 10, .int .u8 0, .int .u8 11, .int .u8 8, .int .u8 3, .int .u8 4, .int .u8 13, .int .u8 7, .int .u8 5, .int .u8 15, .int .u8 14, .int .u8 1, .int .u8 9, .int .u8 12, .int .u8 5, .int .u8 1, .int .u8 15, .int .u8 14, .int .u8 13, .int .u8 4, .int .u8 10, .int .u8 0, .int .u8 7, .int .u8 6, .int .u8 3, .int .u8 9, .int .u8 2, .int .u8 8, .int .u8 11, .int .u8 13, .int .u8 11, .int .u8 7, .int .u8 14, .int .u8 12, .int .u8 1, .int .u8 3, .int .u8 9, .int .u8 5, .int .u8 0, .int .u8 15, .int .u8 4, .int .u8 8, .int .u8 6, .int .u8 2, .int .u8 10, .int .u8 6, .int .u8 15, .int .u8 14, .int .u8 9, .int .u8 11, .int .u8 3, .int .u8 0, .int .u8 8, .int .u8 12, .int .u8 2, .int .u8 13, .int .u8 7, .int .u8 1, .int .u8 4, .int .u8 10, .int .u8 5, .int .u8 10, .int .u8 2, .int .u8 8, .int .u8 4, .int .u8 7, .int .u8 6, .int .u8 1, .int .u8 5, .int .u8 15, .int .u8 11, .int .u8 9, .int .u8 14, .int .u8 3, .int .u8 12, .int .u8 13, .int .u8 0] t frozen
      | o => o) }
set_option maxRecDepth 100000 in
theorem fnExactCookieOf_met (os : Os) : laidMet Tryd.prog Rows.fnExactCookieOfRow.laid ((fnExactCookieOf_world os).forCall (fun _ _ => 0) ⟨#[], #[.agg (Iv .u8 (List.replicate 32 0)), .agg (SrcL false (List.replicate 16 0) 0).toArray], []⟩).memory :=
  laidMet_of_run3 8 (by kernel_rfl) (by kernel_rfl) (by kernel_rfl)
set_option maxRecDepth 100000 in
theorem fnExactCookieOf_reads (os : Os) {H : Type} (enc : TypeId × Value → H) : ∃ places, DataW.whole enc Tryd.prog ((fnExactCookieOf_world os).forCall (fun _ _ => 0) ⟨#[], #[.agg (Iv .u8 (List.replicate 32 0)), .agg (SrcL false (List.replicate 16 0) 0).toArray], []⟩).memory Tryd.f8.params.toList Rows.fnExactCookieOfSpec.vars false (#[.agg (Iv .u8 (List.replicate 32 0)), .agg (SrcL false (List.replicate 16 0) 0).toArray] : Array Value).toList 8 = some ([.agg [.lit (.int .u8 0), .lit (.int .u8 0), .lit (.int .u8 0), .lit (.int .u8 0), .lit (.int .u8 0), .lit (.int .u8 0), .lit (.int .u8 0), .lit (.int .u8 0), .lit (.int .u8 0), .lit (.int .u8 0), .lit (.int .u8 0), .lit (.int .u8 0), .lit (.int .u8 0), .lit (.int .u8 0), .lit (.int .u8 0), .lit (.int .u8 0), .lit (.int .u8 0), .lit (.int .u8 0), .lit (.int .u8 0), .lit (.int .u8 0), .lit (.int .u8 0), .lit (.int .u8 0), .lit (.int .u8 0), .lit (.int .u8 0), .lit (.int .u8 0), .lit (.int .u8 0), .lit (.int .u8 0), .lit (.int .u8 0), .lit (.int .u8 0), .lit (.int .u8 0), .lit (.int .u8 0), .lit (.int .u8 0)], .agg [.lit (.bool false), .agg [.lit (.int .u8 0), .lit (.int .u8 0), .lit (.int .u8 0), .lit (.int .u8 0), .lit (.int .u8 0), .lit (.int .u8 0), .lit (.int .u8 0), .lit (.int .u8 0), .lit (.int .u8 0), .lit (.int .u8 0), .lit (.int .u8 0), .lit (.int .u8 0), .lit (.int .u8 0), .lit (.int .u8 0), .lit (.int .u8 0), .lit (.int .u8 0)], .lit (.int .u16 0)]], [Rows.laid_loop_example_s02974_impl_blakeStart, Rows.laid_loop_example_s02974_impl_mixPlaces, Rows.laid_loop_example_s02974_impl_blakeOrder], places) :=
  ⟨MemPlace.row ⟨0, 0, none⟩ 8 ++ MemPlace.row ⟨1, 0, none⟩ 32 ++ MemPlace.row ⟨2, 0, none⟩ 160, by kernel_rfl⟩
set_option maxRecDepth 100000 in
theorem fnExactCookieOf_lifted (os : Os) (started : os.Started) (H : Type) (enc : TypeId × Value → H) (F : Stop.Interp) :
    ReturnsInHanded {} Tryd.checked os 8 .any ((OpenSpec.ofChange Rows.fnExactCookieOfSpec).preRow enc Tryd.prog Tryd.f8 Rows.fnExactCookieOfRow.domain false Rows.fnExactCookieOfRow.laid) (((OpenSpec.ofChange Rows.fnExactCookieOfSpec).at F).post enc Tryd.prog Tryd.f8 false true false false) := by
  obtain ⟨places, hx⟩ := fnExactCookieOf_reads os enc
  refine returnsInHanded_of_row (C := Tryd.checked) (s := OpenSpec.ofChange Rows.fnExactCookieOfSpec) fnExactCookieOf_own started (by kernel_rfl) Tryd.func8
    (witness_row_at (enc := enc) (C := Tryd.checked) false (fnExactCookieOf_world os) #[.agg (Iv .u8 (List.replicate 32 0)), .agg (SrcL false (List.replicate 16 0) 0).toArray] rfl (by kernel_rfl) (by kernel_rfl) (by kernel_rfl)
      (OpenSpec.preRow_of_cond 8 hx (by kernel_rfl) (fun k hk => by cases hk) (by kernel_rfl) (fnExactCookieOf_met os))) ?_
  intro W base args ds gs before hval hW _ _ _ hL _ _
  exact fnExactCookieOf_contract H enc W base args ds gs before hval hW hL
theorem fnExactCookieOf_said : Rows.FnExactCookieOfSaid :=
  OpenClaim.holds_of_cond 8 Tryd.f8 rfl rfl rfl rfl rfl rfl rfl ⟨rfl, rfl, rfl, rfl, rfl⟩ rfl rfl rfl rfl rfl (by kernel_rfl) Tryd.func8 (by kernel_rfl)
    (of_decide_eq_true (by kernel_rfl)) (by unfold Func.isWrapper; first | (rw [if_pos (by decide +kernel)]; kernel_rfl) | (rw [if_neg (by decide +kernel)]; exact ⟨rfl, rfl⟩))
    (fun os started H enc _ F => by rw [OpenClaim.pre_eq_preRow]; exact fnExactCookieOf_lifted os started H enc F)
theorem fnExactCookieOf_plain (f : FuncId) (fn : Func) (hf : Tryd.pinned.checked.prog.funcNamed "loop.example/s02974/laws.FnExactCookieOf" = some f) (hfn : Tryd.pinned.checked.prog.funcs[f]? = some fn) :
    false = Tryd.pinned.checked.prog.looks [] ∧ ∀ (j : Nat) t, fn.params[j]? = some t → Tryd.pinned.checked.prog.wantsStandIn t = false := by
  obtain rfl : f = 8 := Option.some.inj ((show Tryd.prog.funcNamed "loop.example/s02974/laws.FnExactCookieOf" = some 8 by kernel_rfl).symm.trans hf) |>.symm
  obtain rfl : fn = Tryd.f8 := (Option.some.inj (Tryd.func8.symm.trans hfn)).symm
  refine ⟨by kernel_rfl, fun j t ht => ?_⟩
  rw [Tryd.params8] at ht
  have hm := Array.mem_of_getElem? ht
  simp only [List.mem_toArray, List.mem_cons, List.not_mem_nil, or_false] at hm
  rcases hm with rfl | rfl
  · exact (show Tryd.prog.wantsStandIn 23 = false by kernel_rfl)
  · exact (show Tryd.prog.wantsStandIn 45 = false by kernel_rfl)
theorem fnExactCookieOf_card : Rows.FnExactCookieOfCardSaid :=
  Claim7.holds_tied_plain_at .later [] _ _ _ _ fnExactCookieOf_said (fun _ h => by cases h) (by kernel_rfl) (fun _ h => by cases h) fnExactCookieOf_row_tie rfl ⟨rfl, rfl⟩ (by kernel_rfl) rfl fnExactCookieOf_plain (by kernel_rfl)
#print axioms fnExactCookieOf_card
end Go.Proofs.YtgpjdbkdnojbhaaDoor
