import Derived.Test.YtlbnmiinokkkgaaDoorCards
import Derived.Test.YtlbnmiinokkkgaaDoorTie
import Derived.WalkKit
import Derived.ProofKit
import Derived.OpenShut
import Derived.OpenVars
import Derived.Deep.DeepHandedRow
import Derived.Lib.LaidTab
import Derived.Test.YtlbnmiinokkkgaaDoorMUB
import Derived.Test.YtlbnmiinokkkgaaDoorTabZ
import Derived.Test.YtlbnmiinokkkgaaDoorBytes
import Derived.Test.YtlbnmiinokkkgaaDoorOpen
namespace Go.Proofs.YtlbnmiinokkkgaaDoor
open Go.ChangeShapes Go.WideShapes Go.ChangeAt Go.RowKit
set_option linter.unusedVariables false

theorem fnExactOpen_own : ownKnob Tryd.prog.godebug = none := by kernel_rfl
theorem fnExactOpen_laidOut : laidOutB Tryd.prog = true := by kernel_rfl
theorem fnExactOpen_table {W : World} (h : laidMetH Tryd.prog Rows.fnExactOpenRow.laid W) : MixTab W := mixTab_of_laid (rest := []) h
set_option maxRecDepth 100000 in
theorem fnExactOpen_contract (H : Type) (enc : TypeId × Value → H) (W : World) (base : Nat) (args : Array Value) (ds gs : List (DataW H)) (before : List MemPlace)
    (hval : ∀ (j : Nat) t v, Tryd.f4.params[j]? = some t → args[j]? = some v → Value.okWide Tryd.prog W .any base t v)
    (hW : DataW.Whole enc Tryd.prog Tryd.f4.params.toList Rows.fnExactOpenSpec.vars false W args.toList ds gs before) (hL : laidMetH Tryd.prog Rows.fnExactOpenRow.laid W) :
    Calls Tryd.prog 4 args W fun e W' => ∃ v, e = .returned v ∧ Rows.fnExactOpenSpec.post enc Tryd.prog Tryd.f4 false true false false W args v W' := by
  have hW' := hW
  obtain ⟨p, q, hA0, hV0, rfl, hfz, hnd⟩ := hW
  have hA : DataW.TrodAll enc Tryd.prog W 0 (fun _ => true) true Tryd.f4.params.toList args.toList ds p := hA0
  have hV : DataW.TrodVars enc Tryd.prog W (fun _ => true) ["loop.example/s02974/impl.mixPlaces"] gs q := hV0
  rw [Tryd.params4] at hA hval
  obtain ⟨v0, vs0, d0, ds0, p0, q0, hargs, rfl, rfl, h0, r0⟩ := trodAll_cons hA
  obtain ⟨v1, vs1, d1, ds1, p1, q1, rfl, rfl, rfl, h1, r1⟩ := trodAll_cons r0
  obtain ⟨v2, vs2, d2, ds2, p2, q2, rfl, rfl, rfl, h2, r2⟩ := trodAll_cons r1
  obtain ⟨v3, vs3, d3, ds3, p3, q3, rfl, rfl, rfl, h3, r3⟩ := trodAll_cons r2
  obtain ⟨rfl, rfl, rfl⟩ := trodAll_nil r3
  obtain rfl : args = #[v0, v1, v2, v3] := by cases args; simp_all
  have k0 := h0
  have lt0 : ∀ x ∈ p0, x.block < W.heap.size := by obtain ⟨m, hm⟩ := k0; exact DataW.trod_lt m _ _ _ hm
  have k1 := h1
  have lt1 : ∀ x ∈ p1, x.block < W.heap.size := by obtain ⟨m, hm⟩ := k1; exact DataW.trod_lt m _ _ _ hm
  have k2 := h2
  have lt2 : ∀ x ∈ p2, x.block < W.heap.size := by obtain ⟨m, hm⟩ := k2; exact DataW.trod_lt m _ _ _ hm
  have k3 := h3
  have lt3 : ∀ x ∈ p3, x.block < W.heap.size := by obtain ⟨m, hm⟩ := k3; exact DataW.trod_lt m _ _ _ hm
  obtain ⟨l0, rfl, hl0, hlw0⟩ := open_ints_array Tryd.underlying22 Tryd.underlying5 (by kernel_rfl) (by kernel_rfl) (hval 0 22 v0 rfl rfl) h0
  have hlb0 : Bytes l0 := bytes_of (by rw [hl0]; exact hlw0)
  obtain ⟨l1, rfl, hl1, hlw1⟩ := open_ints_array Tryd.underlying23 Tryd.underlying5 (by kernel_rfl) (by kernel_rfl) (hval 1 23 v1 rfl rfl) h1
  have hlb1 : Bytes l1 := bytes_of (by rw [hl1]; exact hlw1)
  obtain ⟨a2, len2, cap2, rfl⟩ := okWide_slice Tryd.underlying24 (hval 2 24 v2 rfl rfl)
  obtain ⟨zs2, hzl2, hzb2, hcp2, hlc2, hcell2⟩ : ∃ zs : List Int, zs.length = len2 ∧ Bytes zs ∧ cap2 ≤ 9223372036854775807 ∧ len2 ≤ cap2 ∧ ∀ i, i < zs.length → ∃ b o, a2 = some ⟨b, o, none⟩ ∧ b < W.heap.size ∧ W.cell? ⟨b, o + i, none⟩ = some (.int .u8 (zs.getD i 0)) := by
    obtain ⟨fuel, hf⟩ := h2
    rcases open_ints Tryd.underlying24 Tryd.underlying5 (by kernel_rfl) hf with ⟨hcs, _⟩ | ⟨x, l, c, zs, hcs, _, hl, hm, hz, _, hcell, hwz⟩
    · simp [Value.cells] at hcs
      obtain ⟨rfl, rfl, rfl⟩ := hcs
      exact ⟨[], rfl, fun i => by simp, by omega, by omega, fun i hi => by simp at hi⟩
    · simp [Value.cells] at hcs
      obtain ⟨rfl, rfl, rfl⟩ := hcs
      have hz' : zs.length = cap2 := by simpa using hz
      have hm' : cap2 ≤ 9223372036854775807 := by unfold maxLen at hm; omega
      have hlen : (zs.take len2).length = len2 := by rw [List.length_take]; omega
      have hget : ∀ i, i < len2 → (zs.take len2).getD i 0 = zs.getD i 0 := fun i hi => by rw [getD_take, if_pos hi]
      refine ⟨zs.take len2, hlen, ?_, hm', hl, ?_⟩
      · refine bytes_of ?_
        intro i hi
        rw [hlen] at hi
        rw [hget i hi]
        have : zs.getD i 0 ∈ zs := by
          simp only [List.getD_eq_getElem?_getD, List.getElem?_eq_getElem (show i < zs.length by omega), Option.getD_some]
          exact List.getElem_mem _
        exact hwz _ this
      · intro i hi
        rw [hlen] at hi
        obtain ⟨b, off, spot⟩ := x
        have hc := hcell i (by omega)
        have hc0 := hcell 0 (by omega)
        have hspot : spot = none := by simpa [Addr.add] using World.cell?_spot hc0
        subst hspot
        have hadd : (⟨b, off, none⟩ : Addr).add i = ⟨b, off + i, none⟩ := by unfold Addr.add; split <;> simp_all
        rw [hadd] at hc
        refine ⟨b, off, rfl, World.block_lt_of_cell? _ _ hc, ?_⟩
        rw [hc, hget i hi]
  subst hzl2
  obtain ⟨a3, len3, cap3, rfl⟩ := okWide_slice Tryd.underlying24 (hval 3 24 v3 rfl rfl)
  obtain ⟨zs3, hzl3, hzb3, hcp3, hlc3, hcell3⟩ : ∃ zs : List Int, zs.length = len3 ∧ Bytes zs ∧ cap3 ≤ 9223372036854775807 ∧ len3 ≤ cap3 ∧ ∀ i, i < zs.length → ∃ b o, a3 = some ⟨b, o, none⟩ ∧ b < W.heap.size ∧ W.cell? ⟨b, o + i, none⟩ = some (.int .u8 (zs.getD i 0)) := by
    obtain ⟨fuel, hf⟩ := h3
    rcases open_ints Tryd.underlying24 Tryd.underlying5 (by kernel_rfl) hf with ⟨hcs, _⟩ | ⟨x, l, c, zs, hcs, _, hl, hm, hz, _, hcell, hwz⟩
    · simp [Value.cells] at hcs
      obtain ⟨rfl, rfl, rfl⟩ := hcs
      exact ⟨[], rfl, fun i => by simp, by omega, by omega, fun i hi => by simp at hi⟩
    · simp [Value.cells] at hcs
      obtain ⟨rfl, rfl, rfl⟩ := hcs
      have hz' : zs.length = cap3 := by simpa using hz
      have hm' : cap3 ≤ 9223372036854775807 := by unfold maxLen at hm; omega
      have hlen : (zs.take len3).length = len3 := by rw [List.length_take]; omega
      have hget : ∀ i, i < len3 → (zs.take len3).getD i 0 = zs.getD i 0 := fun i hi => by rw [getD_take, if_pos hi]
      refine ⟨zs.take len3, hlen, ?_, hm', hl, ?_⟩
      · refine bytes_of ?_
        intro i hi
        rw [hlen] at hi
        rw [hget i hi]
        have : zs.getD i 0 ∈ zs := by
          simp only [List.getD_eq_getElem?_getD, List.getElem?_eq_getElem (show i < zs.length by omega), Option.getD_some]
          exact List.getElem_mem _
        exact hwz _ this
      · intro i hi
        rw [hlen] at hi
        obtain ⟨b, off, spot⟩ := x
        have hc := hcell i (by omega)
        have hc0 := hcell 0 (by omega)
        have hspot : spot = none := by simpa [Addr.add] using World.cell?_spot hc0
        subst hspot
        have hadd : (⟨b, off, none⟩ : Addr).add i = ⟨b, off + i, none⟩ := by unfold Addr.add; split <;> simp_all
        rw [hadd] at hc
        refine ⟨b, off, rfl, World.block_lt_of_cell? _ _ hc, ?_⟩
        rw [hc, hget i hi]
  subst hzl3
  clear hA0
  have ht := fnExactOpen_table hL
  refine (open_walk l0 l1 hl0 hl1 hlb0 hlb1 zs2 zs3 zs2.length zs3.length rfl rfl hzb2 hzb3 a2 a3 cap2 cap3 (by omega) (by omega) W ht hcell2 hcell3).mono fun e W' ⟨he, bel⟩ => ?_
  subst he
  have hvars := Below.trodVars fnExactOpen_laidOut bel (by kernel_rfl) hV
  obtain ⟨gd, hgd⟩ : ∃ gd, gs = [gd] := by obtain ⟨_, _, _, _, d, _, e, _⟩ := trodVars_one hV; exact ⟨d, e⟩
  subst hgd
  exact ⟨_, rfl, _, _, _, [], _, _, hW', trodAll_mk1 (shut_bool Tryd.underlying4 _), (trodAll_cons_mk (Below.trod fnExactOpen_laidOut (by kernel_rfl) (of_decide_eq_true (by kernel_rfl)) k0 bel lt0) (trodAll_cons_mk (Below.trod fnExactOpen_laidOut (by kernel_rfl) (of_decide_eq_true (by kernel_rfl)) k1 bel lt1) (trodAll_cons_mk (Below.trod fnExactOpen_laidOut (by kernel_rfl) (of_decide_eq_true (by kernel_rfl)) k2 bel lt2) (trodAll_cons_mk (Below.trod fnExactOpen_laidOut (by kernel_rfl) (of_decide_eq_true (by kernel_rfl)) k3 bel lt3) trodAll_mk0)))), hvars, bel.frame _, fun h => by cases h⟩

noncomputable def fnExactOpen_world (os : Os) : World :=
  { World.holding Tryd.prog os ⟨#[], #[], []⟩ with heap := (World.holding Tryd.prog os ⟨#[], #[], []⟩).heap.modify 0 fun
      | .cells _ t frozen => .cells #[.int .u8 0, .int .u8 4, .int .u8 8, .int .u8 12, .int .u8 1, .int .u8 5, .int .u8 9, .int .u8 13, .int .u8 2, .int .u8 6, .int .u8 10, .int .u8 14, .int .u8 3, .int .u8 7, .int .u8 11, .int .u8 15, .int .u8 0, .int .u8 5, .int .u8 10, .int .u8 15, .int .u8 1, .int .u8 6, .int .u8 11, .int .u8 12, .int .u8 2, .int .u8 7, .int .u8 8, .int .u8 13, .int .u8 3, .int .u8 4, .int .u8 9, .int .u8 14] t frozen
      | o => o }
set_option maxRecDepth 100000 in
theorem fnExactOpen_met (os : Os) : laidMet Tryd.prog Rows.fnExactOpenRow.laid ((fnExactOpen_world os).forCall (fun _ _ => 0) ⟨#[], #[.agg (Iv .u8 (List.replicate 32 0)), .agg (Iv .u8 (List.replicate 12 0)), .slice none 0 0, .slice none 0 0], []⟩).memory :=
  laidMet_of_run' 8 (by kernel_rfl) (by kernel_rfl)
set_option maxRecDepth 100000 in
theorem fnExactOpen_reads (os : Os) {H : Type} (enc : TypeId × Value → H) : ∃ places, DataW.whole enc Tryd.prog ((fnExactOpen_world os).forCall (fun _ _ => 0) ⟨#[], #[.agg (Iv .u8 (List.replicate 32 0)), .agg (Iv .u8 (List.replicate 12 0)), .slice none 0 0, .slice none 0 0], []⟩).memory Tryd.f4.params.toList Rows.fnExactOpenSpec.vars false (#[.agg (Iv .u8 (List.replicate 32 0)), .agg (Iv .u8 (List.replicate 12 0)), .slice none 0 0, .slice none 0 0] : Array Value).toList 8 = some ([.agg [.lit (.int .u8 0), .lit (.int .u8 0), .lit (.int .u8 0), .lit (.int .u8 0), .lit (.int .u8 0), .lit (.int .u8 0), .lit (.int .u8 0), .lit (.int .u8 0), .lit (.int .u8 0), .lit (.int .u8 0), .lit (.int .u8 0), .lit (.int .u8 0), .lit (.int .u8 0), .lit (.int .u8 0), .lit (.int .u8 0), .lit (.int .u8 0), .lit (.int .u8 0), .lit (.int .u8 0), .lit (.int .u8 0), .lit (.int .u8 0), .lit (.int .u8 0), .lit (.int .u8 0), .lit (.int .u8 0), .lit (.int .u8 0), .lit (.int .u8 0), .lit (.int .u8 0), .lit (.int .u8 0), .lit (.int .u8 0), .lit (.int .u8 0), .lit (.int .u8 0), .lit (.int .u8 0), .lit (.int .u8 0)], .agg [.lit (.int .u8 0), .lit (.int .u8 0), .lit (.int .u8 0), .lit (.int .u8 0), .lit (.int .u8 0), .lit (.int .u8 0), .lit (.int .u8 0), .lit (.int .u8 0), .lit (.int .u8 0), .lit (.int .u8 0), .lit (.int .u8 0), .lit (.int .u8 0)], .nil, .nil], [Rows.laid_loop_example_s02974_impl_mixPlaces], places) :=
  ⟨MemPlace.row ⟨0, 0, none⟩ 32, by kernel_rfl⟩
set_option maxRecDepth 100000 in
theorem fnExactOpen_lifted (os : Os) (started : os.Started) (H : Type) (enc : TypeId × Value → H) (F : Stop.Interp) :
    ReturnsInHanded {} Tryd.checked os 4 .any ((OpenSpec.ofChange Rows.fnExactOpenSpec).preRow enc Tryd.prog Tryd.f4 Rows.fnExactOpenRow.domain false Rows.fnExactOpenRow.laid) (((OpenSpec.ofChange Rows.fnExactOpenSpec).at F).post enc Tryd.prog Tryd.f4 false true false false) := by
  obtain ⟨places, hx⟩ := fnExactOpen_reads os enc
  refine returnsInHanded_of_row (C := Tryd.checked) (s := OpenSpec.ofChange Rows.fnExactOpenSpec) fnExactOpen_own started (by kernel_rfl) Tryd.func4
    (witness_row_at (enc := enc) (C := Tryd.checked) false (fnExactOpen_world os) #[.agg (Iv .u8 (List.replicate 32 0)), .agg (Iv .u8 (List.replicate 12 0)), .slice none 0 0, .slice none 0 0] rfl (by kernel_rfl) (by kernel_rfl) (by kernel_rfl)
      (OpenSpec.preRow_of_cond 8 hx (by kernel_rfl) (fun k hk => by cases hk) (by kernel_rfl) (fnExactOpen_met os))) ?_
  intro W base args ds gs before hval hW _ _ _ hL _ _
  exact fnExactOpen_contract H enc W base args ds gs before hval hW hL
theorem fnExactOpen_said : Rows.FnExactOpenSaid :=
  OpenClaim.holds_of_cond 4 Tryd.f4 rfl rfl rfl rfl rfl rfl rfl ⟨rfl, rfl, rfl, rfl, rfl⟩ rfl rfl rfl rfl rfl (by kernel_rfl) Tryd.func4 (by kernel_rfl)
    (of_decide_eq_true (by kernel_rfl)) (by unfold Func.isWrapper; first | (rw [if_pos (by decide +kernel)]; kernel_rfl) | (rw [if_neg (by decide +kernel)]; exact ⟨rfl, rfl⟩))
    (fun os started H enc _ F => by rw [OpenClaim.pre_eq_preRow]; exact fnExactOpen_lifted os started H enc F)
theorem fnExactOpen_plain (f : FuncId) (fn : Func) (hf : Tryd.pinned.checked.prog.funcNamed "loop.example/s02974/laws.FnExactOpen" = some f) (hfn : Tryd.pinned.checked.prog.funcs[f]? = some fn) :
    false = Tryd.pinned.checked.prog.looks [] ∧ ∀ (j : Nat) t, fn.params[j]? = some t → Tryd.pinned.checked.prog.wantsStandIn t = false := by
  obtain rfl : f = 4 := Option.some.inj ((show Tryd.prog.funcNamed "loop.example/s02974/laws.FnExactOpen" = some 4 by kernel_rfl).symm.trans hf) |>.symm
  obtain rfl : fn = Tryd.f4 := (Option.some.inj (Tryd.func4.symm.trans hfn)).symm
  refine ⟨by kernel_rfl, fun j t ht => ?_⟩
  rw [Tryd.params4] at ht
  have hm := Array.mem_of_getElem? ht
  simp only [List.mem_toArray, List.mem_cons, List.not_mem_nil, or_false] at hm
  rcases hm with rfl | rfl | rfl | rfl
  · exact (show Tryd.prog.wantsStandIn 22 = false by kernel_rfl)
  · exact (show Tryd.prog.wantsStandIn 23 = false by kernel_rfl)
  · exact (show Tryd.prog.wantsStandIn 24 = false by kernel_rfl)
  · exact (show Tryd.prog.wantsStandIn 24 = false by kernel_rfl)
theorem fnExactOpen_card : Rows.FnExactOpenCardSaid :=
  Claim7.holds_tied_plain_at .later [] _ _ _ _ fnExactOpen_said (fun _ h => by cases h) (by kernel_rfl) (fun _ h => by cases h) fnExactOpen_row_tie rfl ⟨rfl, rfl⟩ (by kernel_rfl) rfl fnExactOpen_plain (by kernel_rfl)
#print axioms fnExactOpen_card
end Go.Proofs.YtlbnmiinokkkgaaDoor
