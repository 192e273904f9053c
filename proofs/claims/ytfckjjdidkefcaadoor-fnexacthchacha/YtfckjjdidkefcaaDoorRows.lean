/-
  NARROWER THAN 'FOR EVERY INPUT', by the rows' own cells (each row's printed sentence says how): FnExactChaBlock: laid · FnExactHChaCha: laid.
  DERIVED. THE GIVEN ROWS OF THIS SEAT. 2 by the template 'for every input the law returns true; each argument reads behind the call as it read before'; 0 by the template 'total and deterministic' (their statements: YtfckjjdidkefcaaDoorTotals.lean).
  GIVEN WITH THE SEED: the statements are not yours to turn. If you find one false, say at which input.
  Laid BY PROGRAM, IN A SANDBOX (cutbox-rows.mjs): the forced cells as the released guide's own fill.sh prints them over the translation 354ebd35665f0f94… (all of the seat's roots in one cut). By AI agents, Wed Nov 11 2026. No macro, syntax, notation, axiom, sorry.
-/
import Derived.Test.YtfckjjdidkefcaaDoorChecked
import GoSem.Claim
import GoSem.ClaimJoined
import GoSem.ClaimMapViews
import Derived.JoinedTies
import Derived.KernelRfl
namespace Go.Proofs.YtfckjjdidkefcaaDoor
/- THE CELL 'sum', in the pinned program and in every row, IS THE sha256 OF THE DUMP (.gsa) THAT YtfckjjdidkefcaaDoorProg.lean LOADS. Nothing in Lean hashes anything: it is a label: what it is worth is what the hold of that sum in a sandbox is worth. -/
noncomputable def Tryd.pinned : Pinned := { name := "ytfckjjdidkefcaadoor", sum := "354ebd35665f0f941d06f7d7d8aceeba57be69c88ac1256d8b61dbf57700c3cf", checked := Tryd.checked }
namespace Rows
def none {H : Type} : Left H := { results := [], args := [] }

/- WHAT THE LISTED PACKAGE-LEVEL VARIABLES READ AS WHEN THE CALL BEGINS. Each datum BY PROGRAM (the guide's laid-datum.mjs) off the statement by which the dump's own 'gosem.cut.vars' lays the variable. In a bare row this is a premise. The card (YtfckjjdidkefcaaDoorCards.lean) ties it to the program's text. -/
def laid_loop_example_s02974_impl_mixPlaces {H : Type} : DataW H := .agg [.agg [.lit (.int .u8 0), .lit (.int .u8 4), .lit (.int .u8 8), .lit (.int .u8 12)], .agg [.lit (.int .u8 1), .lit (.int .u8 5), .lit (.int .u8 9), .lit (.int .u8 13)], .agg [.lit (.int .u8 2), .lit (.int .u8 6), .lit (.int .u8 10), .lit (.int .u8 14)], .agg [.lit (.int .u8 3), .lit (.int .u8 7), .lit (.int .u8 11), .lit (.int .u8 15)], .agg [.lit (.int .u8 0), .lit (.int .u8 5), .lit (.int .u8 10), .lit (.int .u8 15)], .agg [.lit (.int .u8 1), .lit (.int .u8 6), .lit (.int .u8 11), .lit (.int .u8 12)], .agg [.lit (.int .u8 2), .lit (.int .u8 7), .lit (.int .u8 8), .lit (.int .u8 13)], .agg [.lit (.int .u8 3), .lit (.int .u8 4), .lit (.int .u8 9), .lit (.int .u8 14)]]

/-- 'laws.FnExactChaBlock': WHATEVER THE INPUT: true; the input reads as it did. -/
def fnExactChaBlockSpec : ChangeSpec := { name := "fnExactChaBlock", vars := ["loop.example/s02974/impl.mixPlaces"], fn := fun _ => fun
  | [d1, d2, d3, g1] => { results := [.lit (.bool true)], args := [d1, d2, d3], vars := [g1] }
  | _ => none }
def fnExactChaBlockRow : OpenClaim := { program := "ytfckjjdidkefcaadoor", sum := "354ebd35665f0f941d06f7d7d8aceeba57be69c88ac1256d8b61dbf57700c3cf", func := "loop.example/s02974/laws.FnExactChaBlock", spec := "fnExactChaBlock", named := ["loop.example/s02974/impl.mixPlaces"], apart := false, laid := [("loop.example/s02974/impl.mixPlaces", laid_loop_example_s02974_impl_mixPlaces)] }
def FnExactChaBlockSaid : Prop := fnExactChaBlockRow.holds Tryd.pinned (OpenSpec.ofChange fnExactChaBlockSpec)

/-- ITS FALSE NEIGHBOUR: 'it returns false'. Refute it at one input. -/
def fnExactChaBlockWrong : ChangeSpec := { name := "fnExactChaBlock", vars := ["loop.example/s02974/impl.mixPlaces"], fn := fun _ => fun
  | [d1, d2, d3, g1] => { results := [.lit (.bool false)], args := [d1, d2, d3], vars := [g1] }
  | _ => none }
def FnExactChaBlockWrongFalsely : Prop := fnExactChaBlockRow.holds Tryd.pinned (OpenSpec.ofChange fnExactChaBlockWrong)

/-- 'laws.FnExactHChaCha': WHATEVER THE INPUT: true; the input reads as it did. -/
def fnExactHChaChaSpec : ChangeSpec := { name := "fnExactHChaCha", vars := ["loop.example/s02974/impl.mixPlaces"], fn := fun _ => fun
  | [d1, d2, g1] => { results := [.lit (.bool true)], args := [d1, d2], vars := [g1] }
  | _ => none }
def fnExactHChaChaRow : OpenClaim := { program := "ytfckjjdidkefcaadoor", sum := "354ebd35665f0f941d06f7d7d8aceeba57be69c88ac1256d8b61dbf57700c3cf", func := "loop.example/s02974/laws.FnExactHChaCha", spec := "fnExactHChaCha", named := ["loop.example/s02974/impl.mixPlaces"], apart := false, laid := [("loop.example/s02974/impl.mixPlaces", laid_loop_example_s02974_impl_mixPlaces)] }
def FnExactHChaChaSaid : Prop := fnExactHChaChaRow.holds Tryd.pinned (OpenSpec.ofChange fnExactHChaChaSpec)

/-- ITS FALSE NEIGHBOUR: 'it returns false'. Refute it at one input. -/
def fnExactHChaChaWrong : ChangeSpec := { name := "fnExactHChaCha", vars := ["loop.example/s02974/impl.mixPlaces"], fn := fun _ => fun
  | [d1, d2, g1] => { results := [.lit (.bool false)], args := [d1, d2], vars := [g1] }
  | _ => none }
def FnExactHChaChaWrongFalsely : Prop := fnExactHChaChaRow.holds Tryd.pinned (OpenSpec.ofChange fnExactHChaChaWrong)

/- THE SECOND FORM. 'bulk': how many values and letters a reading holds, each counted each time it is reached (what is shared counts as often as it is met; a slice's spare places count too). A statement '..UptoSaid' is the law's where the arguments, and the package variables that the reading takes, are together of bulk at most 1048576: NARROWER than '..Said'. Prove '..Said' where nothing that the law and all that it calls make is longer than what came in: it says more and counts as full. Else prove '..UptoSaid'. A law counts once. -/
mutual
def uptoBulk {H : Type} : DataW H → Nat
  | .lit (.string bytes) => bytes.length + 1
  | .lit _ => 1
  | .nil => 1
  | .ptr d => uptoBulk d + 1
  | .slice elems spare => uptoBulkAll elems + uptoBulkAll spare + 1
  | .agg parts => uptoBulkAll parts + 1
  | .iface _ d => uptoBulk d + 1
  | .map entries => uptoBulkEntries entries + 1
  | .held _ => 1
def uptoBulkAll {H : Type} : List (DataW H) → Nat
  | [] => 0
  | d :: r => uptoBulk d + uptoBulkAll r
def uptoBulkEntries {H : Type} : List (Lit × DataW H) → Nat
  | [] => 0
  | x :: r => uptoBulkEntry x + uptoBulkEntries r
def uptoBulkEntry {H : Type} : Lit × DataW H → Nat
  | (.string bytes, d) => bytes.length + uptoBulk d + 1
  | (_, d) => uptoBulk d + 1
 end
def uptoSmall : (H : Type) → List (DataW H) → Bool := fun _ ds => decide (uptoBulkAll ds ≤ 1048576)
def OpenSpec.upto (s : _root_.Go.ChangeSpec) : _root_.Go.OpenSpec := { _root_.Go.OpenSpec.ofChange s with cond := some uptoSmall }

/-- 'laws.FnExactChaBlock', WHERE WHAT IT READS IS OF BULK AT MOST 1048576: true; the input reads as it did. -/
def fnExactChaBlockUptoRow : OpenClaim := { program := "ytfckjjdidkefcaadoor", sum := "354ebd35665f0f941d06f7d7d8aceeba57be69c88ac1256d8b61dbf57700c3cf", func := "loop.example/s02974/laws.FnExactChaBlock", spec := "fnExactChaBlock", named := ["loop.example/s02974/impl.mixPlaces"], apart := false, laid := [("loop.example/s02974/impl.mixPlaces", laid_loop_example_s02974_impl_mixPlaces)], narrowed := true }
def FnExactChaBlockUptoSaid : Prop := fnExactChaBlockUptoRow.holds Tryd.pinned (OpenSpec.upto fnExactChaBlockSpec)

/-- 'laws.FnExactHChaCha', WHERE WHAT IT READS IS OF BULK AT MOST 1048576: true; the input reads as it did. -/
def fnExactHChaChaUptoRow : OpenClaim := { program := "ytfckjjdidkefcaadoor", sum := "354ebd35665f0f941d06f7d7d8aceeba57be69c88ac1256d8b61dbf57700c3cf", func := "loop.example/s02974/laws.FnExactHChaCha", spec := "fnExactHChaCha", named := ["loop.example/s02974/impl.mixPlaces"], apart := false, laid := [("loop.example/s02974/impl.mixPlaces", laid_loop_example_s02974_impl_mixPlaces)], narrowed := true }
def FnExactHChaChaUptoSaid : Prop := fnExactHChaChaUptoRow.holds Tryd.pinned (OpenSpec.upto fnExactHChaChaSpec)

end Rows
end Go.Proofs.YtfckjjdidkefcaaDoor
