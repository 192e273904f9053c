import Derived.Test.YtckjpnjfaiojgaaDoorCards
import Derived.Test.YtckjpnjfaiojgaaDoorTie
import Derived.WalkKit
import Derived.ProofKit
import Derived.OpenShut
import Derived.OpenVars
import Derived.Deep.DeepHandedRow
import Derived.Lib.LaidTab
import Derived.Stop.LaidErr
import Derived.LaidLaws
import Derived.MakeChecks
import Derived.RowKitTokens
import Derived.Test.YtckjpnjfaiojgaaDoorPLR
import Derived.Test.YtckjpnjfaiojgaaDoorBytes
import Derived.Test.YtckjpnjfaiojgaaDoorOpen
namespace Go.Proofs.YtckjpnjfaiojgaaDoor
open Go.ChangeShapes Go.WideShapes Go.ChangeAt Go.RowKit
open Go.Extern.Stop Go.Stop Go.Extern
set_option linter.unusedVariables false

theorem fnExactParseReply_own : ownKnob Tryd.prog.godebug = none := by kernel_rfl
theorem fnExactParseReply_laidOut : laidOutB Tryd.prog = true := by kernel_rfl
theorem fnExactParseReply_gN : Tryd.prog.globalNamed "loop.example/s02974/impl.errForm" = some 0 := by kernel_rfl
theorem fnExactParseReply_gNType : (Tryd.prog.globals[0]?).map (·.type) = some 56 := by kernel_rfl
theorem fnExactParseReply_star : "*" ++ "errors.errorString" = "*errors.errorString" := by decide
theorem fnExactParseReply_rowP (u : TypeId) (h : Tryd.prog.typeName? 3 u = some "*errors.errorString") : u = 100 :=
  typeName_ptr_named (nm := "errors.errorString") (by rw [fnExactParseReply_star]; kernel_rfl) (by kernel_rfl) (by decide) u (by rw [fnExactParseReply_star]; exact h)
theorem fnExactParseReply_cellsE : Tryd.prog.cellsOf 125 = 1 := by kernel_rfl
theorem fnExactParseReply_cellsS : Tryd.prog.cellsOf 9 = 1 := by kernel_rfl
theorem fnExactParseReply_sentinel {W : World} (h : laidMetH Tryd.prog Rows.fnExactParseReplyRow.laid W) : ∃ a, W.var? Tryd.prog "loop.example/s02974/impl.errForm" = some #[.iface 100 (.pointer (some a))] := by
  have h' : laidMet Tryd.prog Rows.fnExactParseReplyRow.laid W := by
    have e := Go.MakeChecks.laidMetH_plain Tryd.prog Rows.fnExactParseReplyRow.laid W (by kernel_rfl)
    rw [e] at h
    exact h
  obtain ⟨a, s, hv, _⟩ := laid_sentinel h' fnExactParseReply_gN fnExactParseReply_gNType Tryd.underlying56 fnExactParseReply_rowP Tryd.underlying100 Tryd.underlying125 rfl rfl Tryd.underlying9 fnExactParseReply_cellsE fnExactParseReply_cellsS
  exact ⟨a, hv⟩
set_option maxRecDepth 100000 in
theorem fnExactParseReply_contract (H : Type) (enc : TypeId × Value → H) (W : World) (base : Nat) (args : Array Value) (ds gs : List (DataW H)) (before : List MemPlace)
    (hval : ∀ (j : Nat) t v, Tryd.f3.params[j]? = some t → args[j]? = some v → Value.okWide Tryd.prog W .any base t v)
    (hW : DataW.Whole enc Tryd.prog Tryd.f3.params.toList Rows.fnExactParseReplySpec.vars false W args.toList ds gs before) (hL : laidMetH Tryd.prog Rows.fnExactParseReplyRow.laid W) :
    Calls Tryd.prog 3 args W fun e W' => ∃ v, e = .returned v ∧ Rows.fnExactParseReplySpec.post enc Tryd.prog Tryd.f3 false true false false W args v W' := by
  have hW' := hW
  obtain ⟨p, q, hA0, hV0, rfl, hfz, hnd⟩ := hW
  have hA : DataW.TrodAll enc Tryd.prog W 0 (fun _ => true) true Tryd.f3.params.toList args.toList ds p := hA0
  have hV : DataW.TrodVars enc Tryd.prog W (fun _ => true) ["loop.example/s02974/impl.errForm"] gs q := hV0
  rw [Tryd.params3] at hA hval
  obtain ⟨v0, vs0, d0, ds0, p0, q0, hargs, rfl, rfl, h0, r0⟩ := trodAll_cons hA
  obtain ⟨rfl, rfl, rfl⟩ := trodAll_nil r0
  obtain rfl : args = #[v0] := by cases args; simp_all
  have k0 := h0
  have lt0 : ∀ x ∈ p0, x.block < W.heap.size := by obtain ⟨m, hm⟩ := k0; exact DataW.trod_lt m _ _ _ hm
  obtain ⟨a1, len1, cap1, rfl⟩ := okWide_slice Tryd.underlying22 (hval 0 22 v0 rfl rfl)
  obtain ⟨zs, hzl, hzb, hcp, hlc, hcell⟩ : ∃ zs : List Int, zs.length = len1 ∧ Bytes zs ∧ cap1 ≤ 9223372036854775807 ∧ len1 ≤ cap1 ∧ ∀ i, i < zs.length → ∃ b o, a1 = some ⟨b, o, none⟩ ∧ b < W.heap.size ∧ W.cell? ⟨b, o + i, none⟩ = some (.int .u8 (zs.getD i 0)) := by
    obtain ⟨fuel, hf⟩ := h0
    rcases open_ints Tryd.underlying22 Tryd.underlying5 (by kernel_rfl) hf with ⟨hcs, _⟩ | ⟨x, l, c, zs, hcs, _, hl, hm, hz, _, hcell, hwz⟩
    · simp [Value.cells] at hcs
      obtain ⟨rfl, rfl, rfl⟩ := hcs
      exact ⟨[], rfl, fun i => by simp, by omega, by omega, fun i hi => by simp at hi⟩
    · simp [Value.cells] at hcs
      obtain ⟨rfl, rfl, rfl⟩ := hcs
      have hz' : zs.length = cap1 := by simpa using hz
      have hm' : cap1 ≤ 9223372036854775807 := by unfold maxLen at hm; omega
      have hlen : (zs.take len1).length = len1 := by rw [List.length_take]; omega
      have hget : ∀ i, i < len1 → (zs.take len1).getD i 0 = zs.getD i 0 := fun i hi => by rw [getD_take, if_pos hi]
      refine ⟨zs.take len1, hlen, ?_, hm', hl, ?_⟩
      · refine bytes_of ?_
        intro i hi
        rw [hlen] at hi
        rw [hget i hi]
        have : zs.getD i 0 ∈ zs := by
          simp only [List.getD_eq_getElem?_getD, List.getElem?_eq_getElem (show i < zs.length by omega), Option.getD_some]
          exact List.getElem_mem _
        exact hwz _ this
      · intro i hi
        rw [hlen] at hi
        obtain ⟨b, off, spot⟩ := x
        have hc := hcell i (by omega)
        have hc0 := hcell 0 (by omega)
        have hspot : spot = none := by simpa [Addr.add] using World.cell?_spot hc0
        subst hspot
        have hadd : (⟨b, off, none⟩ : Addr).add i = ⟨b, off + i, none⟩ := by unfold Addr.add; split <;> simp_all
        rw [hadd] at hc
        refine ⟨b, off, rfl, World.block_lt_of_cell? _ _ hc, ?_⟩
        rw [hc, hget i hi]
  subst hzl
  clear hA0
  obtain ⟨a0, hv0⟩ := fnExactParseReply_sentinel hL
  obtain ⟨rfl, rfl⟩ := hV.unique (vars_read1 enc fnExactParseReply_gN fnExactParseReply_gNType Tryd.underlying56 hv0 trivial _)
  have hg0 : W.cell? ⟨0, 0, none⟩ = some (.iface 100 (.pointer (some a0))) := by simpa using World.var?_cell fnExactParseReply_gN hv0 0
  have hlt : 0 < W.heap.size := World.block_lt_of_cell? _ _ hg0
  refine (ParseReply_walk a1 zs cap1 a0 W hzb (by omega) hcell hlt hg0).mono fun e W' ⟨he, bel⟩ => ?_
  subst he
  have hv1 : W'.var? Tryd.prog "loop.example/s02974/impl.errForm" = some #[.iface 100 (.pointer (some a0))] := by
    unfold World.var? at hv0 ⊢
    simp only [fnExactParseReply_gN, Option.bind_some] at hv0 ⊢
    rw [bel.block _ hlt]
    exact hv0
  exact ⟨_, rfl, _, _, _, [], _, _, hW', trodAll_mk1 (shut_bool Tryd.underlying4 _), trodAll_cons_mk (Below.trod fnExactParseReply_laidOut (by kernel_rfl) (of_decide_eq_true (by kernel_rfl)) k0 bel lt0) trodAll_mk0, vars_read1 enc fnExactParseReply_gN fnExactParseReply_gNType Tryd.underlying56 hv1 trivial _, bel.frame _, fun h => by cases h⟩

noncomputable def fnExactParseReply_low : Nat := (World.holding Tryd.prog default ⟨#[], #[], []⟩).heap.size
noncomputable def fnExactParseReply_world (os : Os) : World :=
  { World.holding Tryd.prog os ⟨#[.cells #[.string { data := #[97, 32, 100, 97, 116, 97, 103, 114, 97, 109, 32, 111, 102, 32, 97, 110, 111, 116, 104, 101, 114, 32, 102, 111, 114, 109] }] 125], #[], []⟩ with heap := (World.holding Tryd.prog os ⟨#[.cells #[.string { data := #[97, 32, 100, 97, 116, 97, 103, 114, 97, 109, 32, 111, 102, 32, 97, 110, 111, 116, 104, 101, 114, 32, 102, 111, 114, 109] }] 125], #[], []⟩).heap.modify 0 fun
      | .cells _ t frozen => .cells #[.iface 100 (.pointer (some ⟨fnExactParseReply_low, 0, none⟩))] t frozen
      | o => o }
set_option maxRecDepth 100000 in
theorem fnExactParseReply_met (os : Os) : laidMet Tryd.prog Rows.fnExactParseReplyRow.laid ((fnExactParseReply_world os).forCall (fun _ _ => 0) ⟨#[], #[.slice none 0 0], []⟩).memory :=
  laidMet_of_run (ps := [.cell 0 0, .cell fnExactParseReply_low 0]) 8 (by kernel_rfl) (by kernel_rfl) (by kernel_rfl)
set_option maxRecDepth 100000 in
theorem fnExactParseReply_reads (os : Os) {H : Type} (enc : TypeId × Value → H) : ∃ places, DataW.whole enc Tryd.prog ((fnExactParseReply_world os).forCall (fun _ _ => 0) ⟨#[], #[.slice none 0 0], []⟩).memory Tryd.f3.params.toList Rows.fnExactParseReplySpec.vars false (#[.slice none 0 0] : Array Value).toList 8 = some ([.nil], [.held (enc (100, .pointer (some ⟨fnExactParseReply_low, 0, none⟩)))], places) :=
  ⟨[.cell 0 0], by kernel_rfl⟩
set_option maxRecDepth 100000 in
theorem fnExactParseReply_lifted (os : Os) (started : os.Started) (H : Type) (enc : TypeId × Value → H) (F : Stop.Interp) :
    ReturnsInHanded {} Tryd.checked os 3 .any ((OpenSpec.ofChange Rows.fnExactParseReplySpec).preRow enc Tryd.prog Tryd.f3 Rows.fnExactParseReplyRow.domain false Rows.fnExactParseReplyRow.laid) (((OpenSpec.ofChange Rows.fnExactParseReplySpec).at F).post enc Tryd.prog Tryd.f3 false true false false) := by
  obtain ⟨places, hx⟩ := fnExactParseReply_reads os enc
  refine returnsInHanded_of_row (C := Tryd.checked) (s := OpenSpec.ofChange Rows.fnExactParseReplySpec) fnExactParseReply_own started (by kernel_rfl) Tryd.func3
    (witness_row_at (enc := enc) (C := Tryd.checked) false (fnExactParseReply_world os) #[.slice none 0 0] rfl (by kernel_rfl) (by kernel_rfl) (by kernel_rfl)
      (OpenSpec.preRow_of_cond 8 hx (by kernel_rfl) (fun k hk => by cases hk) (by kernel_rfl) (fnExactParseReply_met os))) ?_
  intro W base args ds gs before hval hW _ _ _ hL _ _
  exact fnExactParseReply_contract H enc W base args ds gs before hval hW hL
theorem fnExactParseReply_said : Rows.FnExactParseReplySaid :=
  OpenClaim.holds_of_cond 3 Tryd.f3 rfl rfl rfl rfl rfl rfl rfl ⟨rfl, rfl, rfl, rfl, rfl⟩ rfl rfl rfl rfl rfl (by kernel_rfl) Tryd.func3 (by kernel_rfl)
    (of_decide_eq_true (by kernel_rfl)) (by unfold Func.isWrapper; first | (rw [if_pos (by decide +kernel)]; kernel_rfl) | (rw [if_neg (by decide +kernel)]; exact ⟨rfl, rfl⟩))
    (fun os started H enc _ F => by rw [OpenClaim.pre_eq_preRow]; exact fnExactParseReply_lifted os started H enc F)
theorem fnExactParseReply_plain (f : FuncId) (fn : Func) (hf : Tryd.pinned.checked.prog.funcNamed "loop.example/s02974/laws.FnExactParseReply" = some f) (hfn : Tryd.pinned.checked.prog.funcs[f]? = some fn) :
    true = Tryd.pinned.checked.prog.looks [] ∧ ∀ (j : Nat) t, fn.params[j]? = some t → Tryd.pinned.checked.prog.wantsStandIn t = false := by
  obtain rfl : f = 3 := Option.some.inj ((show Tryd.prog.funcNamed "loop.example/s02974/laws.FnExactParseReply" = some 3 by kernel_rfl).symm.trans hf) |>.symm
  obtain rfl : fn = Tryd.f3 := (Option.some.inj (Tryd.func3.symm.trans hfn)).symm
  refine ⟨by kernel_rfl, fun j t ht => ?_⟩
  rw [Tryd.params3] at ht
  have hm := Array.mem_of_getElem? ht
  simp only [List.mem_toArray, List.mem_cons, List.not_mem_nil, or_false] at hm
  subst hm
  exact (show Tryd.prog.wantsStandIn 22 = false by kernel_rfl)
theorem fnExactParseReply_card : Rows.FnExactParseReplyCardSaid :=
  Claim7.holds_tied_plain_at .later [] _ _ _ _ fnExactParseReply_said (fun _ h => by cases h) (by kernel_rfl) (fun _ h => by cases h) fnExactParseReply_row_tie rfl ⟨rfl, rfl⟩ (by kernel_rfl) rfl fnExactParseReply_plain (by kernel_rfl)
#print axioms fnExactParseReply_card
end Go.Proofs.YtckjpnjfaiojgaaDoor
