import Derived.Test.YtfckjjdidkefcaaDoorCards
import Derived.Test.YtfckjjdidkefcaaDoorTie
import Derived.WalkKit
import Derived.ProofKit
import Derived.OpenShut
import Derived.OpenVars
import Derived.Deep.DeepHandedRow
import Derived.Lib.LaidTab
import Derived.Test.YtfckjjdidkefcaaDoorHLLaw
import Derived.Test.YtfckjjdidkefcaaDoorTab
import Derived.Test.YtfckjjdidkefcaaDoorBytes
namespace Go.Proofs.YtfckjjdidkefcaaDoor
open Go.ChangeShapes Go.WideShapes Go.ChangeAt Go.RowKit
set_option linter.unusedVariables false

theorem fnExactHChaCha_own : ownKnob Tryd.prog.godebug = none := by kernel_rfl
theorem fnExactHChaCha_laidOut : laidOutB Tryd.prog = true := by kernel_rfl
theorem fnExactHChaCha_table {W : World} (h : laidMetH Tryd.prog Rows.fnExactHChaChaRow.laid W) : MixTab W := mixTab_of_laid (rest := []) h
set_option maxRecDepth 100000 in
theorem fnExactHChaCha_contract (H : Type) (enc : TypeId × Value → H) (W : World) (base : Nat) (args : Array Value) (ds gs : List (DataW H)) (before : List MemPlace)
    (hval : ∀ (j : Nat) t v, Tryd.f4.params[j]? = some t → args[j]? = some v → Value.okWide Tryd.prog W .any base t v)
    (hW : DataW.Whole enc Tryd.prog Tryd.f4.params.toList Rows.fnExactHChaChaSpec.vars false W args.toList ds gs before) (hL : laidMetH Tryd.prog Rows.fnExactHChaChaRow.laid W) :
    Calls Tryd.prog 4 args W fun e W' => ∃ v, e = .returned v ∧ Rows.fnExactHChaChaSpec.post enc Tryd.prog Tryd.f4 false true false false W args v W' := by
  have hW' := hW
  obtain ⟨p, q, hA0, hV0, rfl, hfz, hnd⟩ := hW
  have hA : DataW.TrodAll enc Tryd.prog W 0 (fun _ => true) true Tryd.f4.params.toList args.toList ds p := hA0
  have hV : DataW.TrodVars enc Tryd.prog W (fun _ => true) ["loop.example/s02974/impl.mixPlaces"] gs q := hV0
  rw [Tryd.params4] at hA hval
  obtain ⟨v0, vs0, d0, ds0, p0, q0, hargs, rfl, rfl, h0, r0⟩ := trodAll_cons hA
  obtain ⟨v1, vs1, d1, ds1, p1, q1, rfl, rfl, rfl, h1, r1⟩ := trodAll_cons r0
  obtain ⟨rfl, rfl, rfl⟩ := trodAll_nil r1
  obtain rfl : args = #[v0, v1] := by cases args; simp_all
  have k0 := h0
  have lt0 : ∀ x ∈ p0, x.block < W.heap.size := by obtain ⟨m, hm⟩ := k0; exact DataW.trod_lt m _ _ _ hm
  have k1 := h1
  have lt1 : ∀ x ∈ p1, x.block < W.heap.size := by obtain ⟨m, hm⟩ := k1; exact DataW.trod_lt m _ _ _ hm
  obtain ⟨key, rfl, hk, hkw⟩ := open_ints_array Tryd.underlying22 Tryd.underlying5 (by kernel_rfl) (by kernel_rfl) (hval 0 22 v0 rfl rfl) h0
  obtain ⟨nonce, rfl, hr, hrw⟩ := open_ints_array Tryd.underlying31 Tryd.underlying5 (by kernel_rfl) (by kernel_rfl) (hval 1 31 v1 rfl rfl) h1
  clear hA0
  have ht := fnExactHChaCha_table hL
  refine (hChaCha_walk key nonce hk hr (bytes_of (by rw [hk]; exact hkw)) (bytes_of (by rw [hr]; exact hrw)) W ht).mono fun e W' ⟨he, bel⟩ => ?_
  subst he
  have hvars := Below.trodVars fnExactHChaCha_laidOut bel (by kernel_rfl) hV
  obtain ⟨gd, hgd⟩ : ∃ gd, gs = [gd] := by obtain ⟨_, _, _, _, d, _, e, _⟩ := trodVars_one hV; exact ⟨d, e⟩
  subst hgd
  exact ⟨_, rfl, _, _, _, [], _, _, hW', trodAll_mk1 (shut_bool Tryd.underlying4 _), (trodAll_cons_mk (Below.trod fnExactHChaCha_laidOut (by kernel_rfl) (of_decide_eq_true (by kernel_rfl)) k0 bel lt0) (trodAll_cons_mk (Below.trod fnExactHChaCha_laidOut (by kernel_rfl) (of_decide_eq_true (by kernel_rfl)) k1 bel lt1) trodAll_mk0)), hvars, bel.frame _, fun h => by cases h⟩
noncomputable def fnExactHChaCha_world (os : Os) : World :=
  { World.holding Tryd.prog os ⟨#[], #[], []⟩ with heap := (World.holding Tryd.prog os ⟨#[], #[], []⟩).heap.modify 0 fun
      | .cells _ t frozen => .cells #[.int .u8 0, .int .u8 4, .int .u8 8, .int .u8 12, .int .u8 1, .int .u8 5, .int .u8 9, .int .u8 13, .int .u8 2, .int .u8 6, .int .u8 10, .int .u8 14, .int .u8 3, .int .u8 7, .int .u8 11, .int .u8 15, .int .u8 0, .int .u8 5, .int .u8 10, .int .u8 15, .int .u8 1, .int .u8 6, .int .u8 11, .int .u8 12, .int .u8 2, .int .u8 7, .int .u8 8, .int .u8 13, .int .u8 3, .int .u8 4, .int .u8 9, .int .u8 14] t frozen
      | o => o }
set_option maxRecDepth 100000 in
theorem fnExactHChaCha_met (os : Os) : laidMet Tryd.prog Rows.fnExactHChaChaRow.laid ((fnExactHChaCha_world os).forCall (fun _ _ => 0) ⟨#[], #[.agg (Iv .u8 (List.replicate 32 0)), .agg (Iv .u8 (List.replicate 16 0))], []⟩).memory :=
  laidMet_of_run' 8 (by kernel_rfl) (by kernel_rfl)
set_option maxRecDepth 100000 in
theorem fnExactHChaCha_reads (os : Os) {H : Type} (enc : TypeId × Value → H) : ∃ places, DataW.whole enc Tryd.prog ((fnExactHChaCha_world os).forCall (fun _ _ => 0) ⟨#[], #[.agg (Iv .u8 (List.replicate 32 0)), .agg (Iv .u8 (List.replicate 16 0))], []⟩).memory Tryd.f4.params.toList Rows.fnExactHChaChaSpec.vars false (#[.agg (Iv .u8 (List.replicate 32 0)), .agg (Iv .u8 (List.replicate 16 0))] : Array Value).toList 8 = some ([.agg [.lit (.int .u8 0), .lit (.int .u8 0), .lit (.int .u8 0), .lit (.int .u8 0), .lit (.int .u8 0), .lit (.int .u8 0), .lit (.int .u8 0), .lit (.int .u8 0), .lit (.int .u8 0), .lit (.int .u8 0), .lit (.int .u8 0), .lit (.int .u8 0), .lit (.int .u8 0), .lit (.int .u8 0), .lit (.int .u8 0), .lit (.int .u8 0), .lit (.int .u8 0), .lit (.int .u8 0), .lit (.int .u8 0), .lit (.int .u8 0), .lit (.int .u8 0), .lit (.int .u8 0), .lit (.int .u8 0), .lit (.int .u8 0), .lit (.int .u8 0), .lit (.int .u8 0), .lit (.int .u8 0), .lit (.int .u8 0), .lit (.int .u8 0), .lit (.int .u8 0), .lit (.int .u8 0), .lit (.int .u8 0)], .agg [.lit (.int .u8 0), .lit (.int .u8 0), .lit (.int .u8 0), .lit (.int .u8 0), .lit (.int .u8 0), .lit (.int .u8 0), .lit (.int .u8 0), .lit (.int .u8 0), .lit (.int .u8 0), .lit (.int .u8 0), .lit (.int .u8 0), .lit (.int .u8 0), .lit (.int .u8 0), .lit (.int .u8 0), .lit (.int .u8 0), .lit (.int .u8 0)]], [Rows.laid_loop_example_s02974_impl_mixPlaces], places) :=
  ⟨MemPlace.row ⟨0, 0, none⟩ 32, by kernel_rfl⟩
set_option maxRecDepth 100000 in
theorem fnExactHChaCha_lifted (os : Os) (started : os.Started) (H : Type) (enc : TypeId × Value → H) (F : Stop.Interp) :
    ReturnsInHanded {} Tryd.checked os 4 .any ((OpenSpec.ofChange Rows.fnExactHChaChaSpec).preRow enc Tryd.prog Tryd.f4 Rows.fnExactHChaChaRow.domain false Rows.fnExactHChaChaRow.laid) (((OpenSpec.ofChange Rows.fnExactHChaChaSpec).at F).post enc Tryd.prog Tryd.f4 false true false false) := by
  obtain ⟨places, hx⟩ := fnExactHChaCha_reads os enc
  refine returnsInHanded_of_row (C := Tryd.checked) (s := OpenSpec.ofChange Rows.fnExactHChaChaSpec) fnExactHChaCha_own started (by kernel_rfl) Tryd.func4
    (witness_row_at (enc := enc) (C := Tryd.checked) false (fnExactHChaCha_world os) #[.agg (Iv .u8 (List.replicate 32 0)), .agg (Iv .u8 (List.replicate 16 0))] rfl (by kernel_rfl) (by kernel_rfl) (by kernel_rfl)
      (OpenSpec.preRow_of_cond 8 hx (by kernel_rfl) (fun k hk => by cases hk) (by kernel_rfl) (fnExactHChaCha_met os))) ?_
  intro W base args ds gs before hval hW _ _ _ hL _ _
  exact fnExactHChaCha_contract H enc W base args ds gs before hval hW hL
theorem fnExactHChaCha_said : Rows.FnExactHChaChaSaid :=
  OpenClaim.holds_of_cond 4 Tryd.f4 rfl rfl rfl rfl rfl rfl rfl ⟨rfl, rfl, rfl, rfl, rfl⟩ rfl rfl rfl rfl rfl (by kernel_rfl) Tryd.func4 (by kernel_rfl)
    (of_decide_eq_true (by kernel_rfl)) (by unfold Func.isWrapper; first | (rw [if_pos (by decide +kernel)]; kernel_rfl) | (rw [if_neg (by decide +kernel)]; exact ⟨rfl, rfl⟩))
    (fun os started H enc _ F => by rw [OpenClaim.pre_eq_preRow]; exact fnExactHChaCha_lifted os started H enc F)
theorem fnExactHChaCha_plain (f : FuncId) (fn : Func) (hf : Tryd.pinned.checked.prog.funcNamed "loop.example/s02974/laws.FnExactHChaCha" = some f) (hfn : Tryd.pinned.checked.prog.funcs[f]? = some fn) :
    false = Tryd.pinned.checked.prog.looks [] ∧ ∀ (j : Nat) t, fn.params[j]? = some t → Tryd.pinned.checked.prog.wantsStandIn t = false := by
  obtain rfl : f = 4 := Option.some.inj ((show Tryd.prog.funcNamed "loop.example/s02974/laws.FnExactHChaCha" = some 4 by kernel_rfl).symm.trans hf) |>.symm
  obtain rfl : fn = Tryd.f4 := (Option.some.inj (Tryd.func4.symm.trans hfn)).symm
  refine ⟨by kernel_rfl, fun j t ht => ?_⟩
  rw [Tryd.params4] at ht
  have hm := Array.mem_of_getElem? ht
  simp only [List.mem_toArray, List.mem_cons, List.not_mem_nil, or_false] at hm
  rcases hm with rfl | rfl
  · exact (show Tryd.prog.wantsStandIn 22 = false by kernel_rfl)
  · exact (show Tryd.prog.wantsStandIn 31 = false by kernel_rfl)
theorem fnExactHChaCha_card : Rows.FnExactHChaChaCardSaid :=
  Claim7.holds_tied_plain_at .later [] _ _ _ _ fnExactHChaCha_said (fun _ h => by cases h) (by kernel_rfl) (fun _ h => by cases h) fnExactHChaCha_row_tie rfl ⟨rfl, rfl⟩ (by kernel_rfl) rfl fnExactHChaCha_plain (by kernel_rfl)
#print axioms fnExactHChaCha_card
end Go.Proofs.YtfckjjdidkefcaaDoor
