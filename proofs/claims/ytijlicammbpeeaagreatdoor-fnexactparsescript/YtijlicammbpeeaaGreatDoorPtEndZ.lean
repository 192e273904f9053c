import Derived.Test.YtijlicammbpeeaaGreatDoorCards
import Derived.Test.YtijlicammbpeeaaGreatDoorTie
import Derived.WalkKit
import Derived.ProofKit
import Derived.OpenShut
import Derived.OpenVars
import Derived.Deep.DeepHandedRow
import Derived.Deep.DeepLaidRun
import Derived.Lib.LaidTab
import Derived.Stop.LaidErr
import Derived.LaidLaws
import Derived.MakeChecks
import Derived.RowKitTokens
import Derived.Shelf.Vars
import Derived.Test.YtijlicammbpeeaaGreatDoorME45
import Derived.Test.YtijlicammbpeeaaGreatDoorME05
import Derived.Test.YtijlicammbpeeaaGreatDoorME00
/- FnExactParseScript: from the walk to the card. -/
namespace Go.Proofs.YtijlicammbpeeaaGreatDoor
open Go.ChangeShapes Go.WideShapes Go.ChangeAt Go.RowKit
open Go.Extern.Stop Go.Stop Go.Extern
set_option linter.unusedVariables false
set_option linter.unusedSimpArgs false
theorem fnExactParseScript_own : ownKnob Tryz.prog.godebug = none := by kernel_rfl
theorem fnExactParseScript_laidOut : laidOutB Tryz.prog = true := by kernel_rfl
theorem fnExactParseScript_met0 {W : World} (h : laidMetH Tryz.prog Rows.fnExactParseScriptRow.laid W) : laidMet Tryz.prog Rows.fnExactParseScriptRow.laid W := by
  have e := Go.MakeChecks.laidMetH_plain Tryz.prog Rows.fnExactParseScriptRow.laid W (by kernel_rfl)
  rw [e] at h
  exact h
theorem fnExactParseScript_table {W : World} (h : laidMet Tryz.prog Rows.fnExactParseScriptRow.laid W) : Tb W :=
  Lib.tabIs_of_head tbNamed (by kernel_rfl) Tryz.underlying149 Tryz.underlying114 (by kernel_rfl) (by kernel_rfl) (laidMet.tail (laidMet.tail h))
theorem fnExactParseScript_star : "*" ++ "errors.errorString" = "*errors.errorString" := by decide
theorem fnExactParseScript_rowP (u : TypeId) (h : Tryz.prog.typeName? 3 u = some "*errors.errorString") : u = 145 :=
  typeName_ptr_named (nm := "errors.errorString") (by rw [fnExactParseScript_star]; kernel_rfl) (by kernel_rfl) (by decide) u (by rw [fnExactParseScript_star]; exact h)
theorem fnExactParseScript_cellsE : Tryz.prog.cellsOf 147 = 1 := by kernel_rfl
theorem fnExactParseScript_cellsS : Tryz.prog.cellsOf 9 = 1 := by kernel_rfl
theorem fnExactParseScript_gR : Tryz.prog.globalNamed "strconv.ErrRange" = some 4 := by kernel_rfl
theorem fnExactParseScript_gRType : (Tryz.prog.globals[4]?).map (·.type) = some 106 := by kernel_rfl
theorem fnExactParseScript_sentR {W : World} (h : laidMet Tryz.prog Rows.fnExactParseScriptRow.laid W) : ∃ t p, W.cell? ⟨4, 0, none⟩ = some (.iface t p) := by
  obtain ⟨a, s, hv, _⟩ := laid_sentinel (laidMet.tail (laidMet.tail (laidMet.tail (laidMet.tail h)))) fnExactParseScript_gR fnExactParseScript_gRType Tryz.underlying106 fnExactParseScript_rowP Tryz.underlying145 Tryz.underlying147 rfl rfl Tryz.underlying9 fnExactParseScript_cellsE fnExactParseScript_cellsS
  exact ⟨_, _, by simpa using World.var?_cell fnExactParseScript_gR hv 0⟩
theorem fnExactParseScript_gS : Tryz.prog.globalNamed "strconv.ErrSyntax" = some 3 := by kernel_rfl
theorem fnExactParseScript_gSType : (Tryz.prog.globals[3]?).map (·.type) = some 106 := by kernel_rfl
theorem fnExactParseScript_sentS {W : World} (h : laidMet Tryz.prog Rows.fnExactParseScriptRow.laid W) : ∃ t p, W.cell? ⟨3, 0, none⟩ = some (.iface t p) := by
  obtain ⟨a, s, hv, _⟩ := laid_sentinel (laidMet.tail (laidMet.tail (laidMet.tail (laidMet.tail (laidMet.tail h))))) fnExactParseScript_gS fnExactParseScript_gSType Tryz.underlying106 fnExactParseScript_rowP Tryz.underlying145 Tryz.underlying147 rfl rfl Tryz.underlying9 fnExactParseScript_cellsE fnExactParseScript_cellsS
  exact ⟨_, _, by simpa using World.var?_cell fnExactParseScript_gS hv 0⟩
theorem fnExactParseScript_gl {W : World} (h : laidMetH Tryz.prog Rows.fnExactParseScriptRow.laid W) (hs : W.ShapedOpen Tryz.prog) : Gl W := by
  have h1 := fnExactParseScript_met0 h
  refine ⟨?_, ?_, fnExactParseScript_sentS h1, fnExactParseScript_sentR h1, fnExactParseScript_table h1⟩
  · obtain ⟨o, _, h8, _⟩ := hs.2 8 (of_decide_eq_true (by kernel_rfl)) (of_decide_eq_true (by kernel_rfl))
    exact Nat.le_of_lt (Array.getElem?_eq_some_iff.1 h8).1
  · exact cell_of_shapedOpen_int (zero := #[.int .i64 0]) hs (of_decide_eq_true (by kernel_rfl)) (by kernel_rfl) rfl (by kernel_rfl) (by kernel_rfl) Tryz.underlying3
theorem ub_back (zs : List Int) (h : Bytes zs) : ∃ t : List UInt8, ub t = zs := by
  refine ⟨zs.map fun z => UInt8.ofNat z.toNat, ?_⟩
  have hz : ∀ z ∈ zs, 0 ≤ z ∧ z ≤ 255 := fun z hz => by
    obtain ⟨i, hi, e⟩ := List.getElem_of_mem hz
    have := h i
    rw [List.getD_eq_getElem?_getD, List.getElem?_eq_getElem hi, Option.getD_some, e] at this
    exact this
  unfold ub
  rw [List.map_map]
  conv => rhs; rw [← List.map_id zs]
  refine List.map_congr_left fun z hm => ?_
  have := hz z hm
  simp only [Function.comp_apply, UInt8.toNat_ofNat', id_eq]
  omega
set_option maxRecDepth 100000 in
theorem fnExactParseScript_contract (H : Type) (enc : TypeId × Value → H) (W : World) (base : Nat) (args : Array Value) (ds gs : List (DataW H)) (before : List MemPlace)
    (hval : ∀ (j : Nat) t v, Tryz.f3.params[j]? = some t → args[j]? = some v → Value.okWide Tryz.prog W .any base t v)
    (hW : DataW.Whole enc Tryz.prog Tryz.f3.params.toList Rows.fnExactParseScriptSpec.vars false W args.toList ds gs before) (hL : laidMetH Tryz.prog Rows.fnExactParseScriptRow.laid W) (hsh : W.ShapedOpen Tryz.prog) :
    Calls Tryz.prog 3 args W fun e W' => ∃ v, e = .returned v ∧ Rows.fnExactParseScriptSpec.post enc Tryz.prog Tryz.f3 false true false false W args v W' := by
  have hW' := hW
  obtain ⟨p, q, hA0, hV, rfl, hfz, hnd⟩ := hW
  have hA : DataW.TrodAll enc Tryz.prog W 0 (fun _ => true) true Tryz.f3.params.toList args.toList ds p := hA0
  rw [Tryz.params3] at hA hval
  obtain ⟨v0, vs0, d0, ds0, p0, q0, hargs, rfl, rfl, h0, r0⟩ := trodAll_cons hA
  obtain ⟨rfl, rfl, rfl⟩ := trodAll_nil r0
  obtain rfl : args = #[v0] := by cases args; simp_all
  obtain ⟨rfl, rfl⟩ := trodVars_none hV
  have k0 := h0
  have lt0 : ∀ x ∈ p0, x.block < W.heap.size := by obtain ⟨m, hm⟩ := k0; exact DataW.trod_lt m _ _ _ hm
  obtain ⟨a1, len1, cap1, rfl⟩ := okWide_slice Tryz.underlying22 (hval 0 22 v0 rfl rfl)
  obtain ⟨zs, hzl, hzb, hcp, hlc, hcell⟩ : ∃ zs : List Int, zs.length = len1 ∧ Bytes zs ∧ cap1 ≤ 9223372036854775807 ∧ len1 ≤ cap1 ∧ ∀ i, i < zs.length → ∃ b o, a1 = some ⟨b, o, none⟩ ∧ b < W.heap.size ∧ W.cell? ⟨b, o + i, none⟩ = some (.int .u8 (zs.getD i 0)) := by
    obtain ⟨fuel, hf⟩ := h0
    rcases open_ints Tryz.underlying22 Tryz.underlying5 (by kernel_rfl) hf with ⟨hcs, _⟩ | ⟨x, l, c, zs, hcs, _, hl, hm, hz, _, hcell, hwz⟩
    · simp [Value.cells] at hcs
      obtain ⟨rfl, rfl, rfl⟩ := hcs
      exact ⟨[], rfl, fun i => by simp, by omega, by omega, fun i hi => by simp at hi⟩
    · simp [Value.cells] at hcs
      obtain ⟨rfl, rfl, rfl⟩ := hcs
      have hz' : zs.length = cap1 := by simpa using hz
      have hm' : cap1 ≤ 9223372036854775807 := by unfold maxLen at hm; omega
      have hlen : (zs.take len1).length = len1 := by rw [List.length_take]; omega
      have hget : ∀ i, i < len1 → (zs.take len1).getD i 0 = zs.getD i 0 := fun i hi => by rw [getD_take, if_pos hi]
      refine ⟨zs.take len1, hlen, ?_, hm', hl, ?_⟩
      · refine bytes_of ?_
        intro i hi
        rw [hlen] at hi
        rw [hget i hi]
        have : zs.getD i 0 ∈ zs := by
          simp only [List.getD_eq_getElem?_getD, List.getElem?_eq_getElem (show i < zs.length by omega), Option.getD_some]
          exact List.getElem_mem _
        exact hwz _ this
      · intro i hi
        rw [hlen] at hi
        obtain ⟨b, off, spot⟩ := x
        have hc := hcell i (by omega)
        have hc0 := hcell 0 (by omega)
        have hspot : spot = none := by simpa [Addr.add] using World.cell?_spot hc0
        subst hspot
        have hadd : (⟨b, off, none⟩ : Addr).add i = ⟨b, off + i, none⟩ := by unfold Addr.add; split <;> simp_all
        rw [hadd] at hc
        refine ⟨b, off, rfl, World.block_lt_of_cell? _ _ hc, ?_⟩
        rw [hc, hget i hi]
  clear hA0
  have hg := fnExactParseScript_gl hL hsh
  obtain ⟨t, rfl⟩ := ub_back zs hzb
  have hwalk : Calls Tryz.prog 3 #[.slice a1 len1 cap1] W fun e w' => e = .returned (.bool true) ∧ Below W.heap.size W w' := by
    by_cases hle : len1 ≤ 1048576
    · exact parseLaw_yes t len1 hzl hle a1 cap1 W hg (fun i hi => hcell i (by rw [hzl]; exact hi))
    · exact parseLaw_no len1 (by omega) (by omega) a1 cap1 W
  refine hwalk.mono fun e W' ⟨he, bel⟩ => ?_
  subst he
  exact ⟨_, rfl, _, _, _, [], _, [], hW', trodAll_mk1 (shut_bool Tryz.underlying4 _), (trodAll_cons_mk (Below.trod fnExactParseScript_laidOut (by kernel_rfl) (of_decide_eq_true (by kernel_rfl)) k0 bel lt0) trodAll_mk0), rfl, bel.frame _, fun h => by cases h⟩
noncomputable def fnExactParseScript_low : Nat := (World.holding Tryz.prog default ⟨#[], #[], []⟩).heap.size
noncomputable def fnExactParseScript_objs : Array Obj := #[.cells #[.string { data := #[118, 97, 108, 117, 101, 32, 111, 117, 116, 32, 111, 102, 32, 114, 97, 110, 103, 101] }] 147, .cells #[.string { data := #[105, 110, 118, 97, 108, 105, 100, 32, 115, 121, 110, 116, 97, 120] }] 147]
/-- What the variables hold. -/
noncomputable def fnExactParseScript_lay (g : Nat) (cs : Array Value) (h : Array Obj) : Array Obj := h.modify g fun
  | .cells _ t frozen => .cells cs t frozen
  | o => o
noncomputable def fnExactParseScript_heap (h : Array Obj) : Array Obj :=
  fnExactParseScript_lay 1 (Go.Pinned.utf8FirstZ.map fun (x : Nat) => Value.int .u8 (x : Int)).toArray (fnExactParseScript_lay 3 #[.iface 145 (.pointer (some ⟨fnExactParseScript_low + 1, 0, none⟩))] (fnExactParseScript_lay 4 #[.iface 145 (.pointer (some ⟨fnExactParseScript_low, 0, none⟩))]
    (fnExactParseScript_lay 2 #[.int .u8 128, .int .u8 191, .int .u8 160, .int .u8 191, .int .u8 128, .int .u8 159, .int .u8 144, .int .u8 191, .int .u8 128, .int .u8 143, .int .u8 0, .int .u8 0, .int .u8 0, .int .u8 0, .int .u8 0, .int .u8 0, .int .u8 0, .int .u8 0, .int .u8 0, .int .u8 0, .int .u8 0, .int .u8 0, .int .u8 0, .int .u8 0, .int .u8 0, .int .u8 0, .int .u8 0, .int .u8 0, .int .u8 0, .int .u8 0, .int .u8 0, .int .u8 0]
    (fnExactParseScript_lay 5 #[.int .u64 1, .int .u64 10, .int .u64 100, .int .u64 1000, .int .u64 10000, .int .u64 100000, .int .u64 1000000, .int .u64 10000000, .int .u64 100000000, .int .u64 1000000000, .int .u64 10000000000, .int .u64 100000000000, .int .u64 1000000000000, .int .u64 10000000000000, .int .u64 100000000000000, .int .u64 1000000000000000, .int .u64 10000000000000000, .int .u64 100000000000000000, .int .u64 1000000000000000000, .int .u64 10000000000000000000]
    (fnExactParseScript_lay 7 #[.int .u8 0, .int .u8 1, .int .u8 56, .int .u8 2, .int .u8 57, .int .u8 49, .int .u8 28, .int .u8 3, .int .u8 61, .int .u8 58, .int .u8 42, .int .u8 50, .int .u8 38, .int .u8 29, .int .u8 17, .int .u8 4, .int .u8 62, .int .u8 47, .int .u8 59, .int .u8 36, .int .u8 45, .int .u8 43, .int .u8 51, .int .u8 22, .int .u8 53, .int .u8 39, .int .u8 33, .int .u8 30, .int .u8 24, .int .u8 18, .int .u8 12, .int .u8 5, .int .u8 63, .int .u8 55, .int .u8 48, .int .u8 27, .int .u8 60, .int .u8 41, .int .u8 37, .int .u8 16, .int .u8 46, .int .u8 35, .int .u8 44, .int .u8 21, .int .u8 52, .int .u8 32, .int .u8 23, .int .u8 11, .int .u8 54, .int .u8 26, .int .u8 40, .int .u8 15, .int .u8 34, .int .u8 20, .int .u8 31, .int .u8 10, .int .u8 25, .int .u8 14, .int .u8 19, .int .u8 9, .int .u8 13, .int .u8 8, .int .u8 7, .int .u8 6]
    (fnExactParseScript_lay 6 #[.int .u8 0, .int .u8 1, .int .u8 28, .int .u8 2, .int .u8 29, .int .u8 14, .int .u8 24, .int .u8 3, .int .u8 30, .int .u8 22, .int .u8 20, .int .u8 15, .int .u8 25, .int .u8 17, .int .u8 4, .int .u8 8, .int .u8 31, .int .u8 27, .int .u8 13, .int .u8 23, .int .u8 21, .int .u8 19, .int .u8 16, .int .u8 7, .int .u8 26, .int .u8 12, .int .u8 18, .int .u8 6, .int .u8 11, .int .u8 5, .int .u8 10, .int .u8 9] h))))))
noncomputable def fnExactParseScript_world (os : Os) : World :=
  { World.holding Tryz.prog os ⟨fnExactParseScript_objs, #[], []⟩ with heap := fnExactParseScript_heap (World.holding Tryz.prog os ⟨fnExactParseScript_objs, #[], []⟩).heap }
set_option maxRecDepth 100000 in
theorem fnExactParseScript_met (os : Os) : laidMet Tryz.prog Rows.fnExactParseScriptRow.laid ((fnExactParseScript_world os).forCall (fun _ _ => 0) ⟨#[], #[.slice none 0 0], []⟩).memory :=
  laidMet_of_run3 8 (by kernel_rfl) (by kernel_rfl) (by kernel_rfl)
set_option maxRecDepth 100000 in
theorem fnExactParseScript_reads (os : Os) {H : Type} (enc : TypeId × Value → H) : ∃ places, DataW.whole enc Tryz.prog ((fnExactParseScript_world os).forCall (fun _ _ => 0) ⟨#[], #[.slice none 0 0], []⟩).memory Tryz.f3.params.toList Rows.fnExactParseScriptSpec.vars false (#[.slice none 0 0] : Array Value).toList 8 = some ([.nil], [], places) :=
  ⟨[], by kernel_rfl⟩
set_option maxRecDepth 100000 in
theorem fnExactParseScript_lifted (os : Os) (started : os.Started) (H : Type) (enc : TypeId × Value → H) (F : Stop.Interp) :
    ReturnsInHanded {} Tryz.checked os 3 .any ((OpenSpec.ofChange Rows.fnExactParseScriptSpec).preRow enc Tryz.prog Tryz.f3 Rows.fnExactParseScriptRow.domain false Rows.fnExactParseScriptRow.laid) (((OpenSpec.ofChange Rows.fnExactParseScriptSpec).at F).post enc Tryz.prog Tryz.f3 false true false false) := by
  obtain ⟨places, hx⟩ := fnExactParseScript_reads os enc
  refine returnsInHanded_of_row (C := Tryz.checked) (s := OpenSpec.ofChange Rows.fnExactParseScriptSpec) fnExactParseScript_own started (by kernel_rfl) Tryz.func3
    (witness_row_at (enc := enc) (C := Tryz.checked) false (fnExactParseScript_world os) #[.slice none 0 0] rfl (by kernel_rfl) (by kernel_rfl) (by kernel_rfl)
      (OpenSpec.preRow_of_cond 8 hx (by kernel_rfl) (fun k hk => by cases hk) (by kernel_rfl) (fnExactParseScript_met os))) ?_
  intro W base args ds gs before hval hW _ _ _ hL hsh _
  exact fnExactParseScript_contract H enc W base args ds gs before hval hW hL hsh
theorem fnExactParseScript_said : Rows.FnExactParseScriptSaid :=
  OpenClaim.holds_of_cond 3 Tryz.f3 rfl rfl rfl rfl rfl rfl rfl ⟨rfl, rfl, rfl, rfl, rfl⟩ rfl rfl rfl rfl rfl (by kernel_rfl) Tryz.func3 (by kernel_rfl)
    (of_decide_eq_true (by kernel_rfl)) (by unfold Func.isWrapper; first | (rw [if_pos (by decide +kernel)]; kernel_rfl) | (rw [if_neg (by decide +kernel)]; exact ⟨rfl, rfl⟩))
    (fun os started H enc _ F => by rw [OpenClaim.pre_eq_preRow]; exact fnExactParseScript_lifted os started H enc F)
theorem fnExactParseScript_plain (f : FuncId) (fn : Func) (hf : Tryz.pinned.checked.prog.funcNamed "loop.example/s02974/laws.FnExactParseScript" = some f) (hfn : Tryz.pinned.checked.prog.funcs[f]? = some fn) :
    true = Tryz.pinned.checked.prog.looks [] ∧ ∀ (j : Nat) t, fn.params[j]? = some t → Tryz.pinned.checked.prog.wantsStandIn t = false := by
  obtain rfl : f = 3 := Option.some.inj ((show Tryz.prog.funcNamed "loop.example/s02974/laws.FnExactParseScript" = some 3 by kernel_rfl).symm.trans hf) |>.symm
  obtain rfl : fn = Tryz.f3 := (Option.some.inj (Tryz.func3.symm.trans hfn)).symm
  refine ⟨by kernel_rfl, fun j t ht => ?_⟩
  rw [Tryz.params3] at ht
  have hm := Array.mem_of_getElem? ht
  simp only [List.mem_toArray, List.mem_cons, List.not_mem_nil, or_false] at hm
  subst hm
  exact (show Tryz.prog.wantsStandIn 22 = false by kernel_rfl)
theorem fnExactParseScript_card : Rows.FnExactParseScriptCardSaid :=
  Claim7.holds_tied_plain_at .later [] _ _ _ _ fnExactParseScript_said (fun _ h => by cases h) (by kernel_rfl) (fun _ h => by cases h) fnExactParseScript_row_tie rfl ⟨rfl, rfl⟩ (by kernel_rfl) rfl fnExactParseScript_plain (by kernel_rfl)
#print axioms fnExactParseScript_card
end Go.Proofs.YtijlicammbpeeaaGreatDoor
