/-
  No cell of these rows narrows 'for every input' (looked for: loops, veiled, ifaces, maps, wideKeys, modest, calm, conditions, laid).
  DERIVED. THE GIVEN ROWS OF THIS SEAT. 4 by the template 'for every input the law returns true; each argument reads behind the call as it read before'; 0 by the template 'total and deterministic' (their statements: YtfkeekhepkhjcaaTotals.lean).
  GIVEN WITH THE SEED: the statements are not yours to turn. If you find one false, say at which input.
  Laid BY PROGRAM, IN A SANDBOX (cutbox-rows.mjs): the forced cells as the released guide's own fill.sh prints them over the translation d9e97618e0af75a1… (all of the seat's roots in one cut). By AI agents, Wed Nov 11 2026. No macro, syntax, notation, axiom, sorry.
-/
import Derived.Test.YtfkeekhepkhjcaaChecked
import GoSem.Claim
import GoSem.ClaimJoined
import GoSem.ClaimMapViews
import Derived.JoinedTies
import Derived.KernelRfl
namespace Go.Proofs.Ytfkeekhepkhjcaa
/- THE CELL 'sum', in the pinned program and in every row, IS THE sha256 OF THE DUMP (.gsa) THAT YtfkeekhepkhjcaaProg.lean LOADS. Nothing in Lean hashes anything: it is a label: what it is worth is what the hold of that sum in a sandbox is worth. -/
noncomputable def Try.pinned : Pinned := { name := "ytfkeekhepkhjcaa", sum := "d9e97618e0af75a1cc9f34289bb7ce66ef1d751fb9cb6e5d23cfa2246fa2815c", checked := Try.checked }
namespace Rows
def none {H : Type} : Left H := { results := [], args := [] }

/-- 'laws.FnExactTaiLess': WHATEVER THE INPUT: true; the input reads as it did. -/
def fnExactTaiLessSpec : ChangeSpec := { name := "fnExactTaiLess", fn := fun _ => fun
  | [d1, d2] => { results := [.lit (.bool true)], args := [d1, d2] }
  | _ => none }
def fnExactTaiLessRow : OpenClaim := { program := "ytfkeekhepkhjcaa", sum := "d9e97618e0af75a1cc9f34289bb7ce66ef1d751fb9cb6e5d23cfa2246fa2815c", func := "loop.example/s02974/laws.FnExactTaiLess", spec := "fnExactTaiLess", inPlace := ["internal/bytealg.Compare"], apart := false }
def FnExactTaiLessSaid : Prop := fnExactTaiLessRow.holds Try.pinned (OpenSpec.ofChange fnExactTaiLessSpec)

/-- ITS FALSE NEIGHBOUR: 'it returns false'. Refute it at one input. -/
def fnExactTaiLessWrong : ChangeSpec := { name := "fnExactTaiLess", fn := fun _ => fun
  | [d1, d2] => { results := [.lit (.bool false)], args := [d1, d2] }
  | _ => none }
def FnExactTaiLessWrongFalsely : Prop := fnExactTaiLessRow.holds Try.pinned (OpenSpec.ofChange fnExactTaiLessWrong)

/-- 'laws.FnExactTaiOf': WHATEVER THE INPUT: true; the input reads as it did. -/
def fnExactTaiOfSpec : ChangeSpec := { name := "fnExactTaiOf", fn := fun _ => fun
  | [d] => { results := [.lit (.bool true)], args := [d] }
  | _ => none }
def fnExactTaiOfRow : OpenClaim := { program := "ytfkeekhepkhjcaa", sum := "d9e97618e0af75a1cc9f34289bb7ce66ef1d751fb9cb6e5d23cfa2246fa2815c", func := "loop.example/s02974/laws.FnExactTaiOf", spec := "fnExactTaiOf", apart := false }
def FnExactTaiOfSaid : Prop := fnExactTaiOfRow.holds Try.pinned (OpenSpec.ofChange fnExactTaiOfSpec)

/-- ITS FALSE NEIGHBOUR: 'it returns false'. Refute it at one input. -/
def fnExactTaiOfWrong : ChangeSpec := { name := "fnExactTaiOf", fn := fun _ => fun
  | [d] => { results := [.lit (.bool false)], args := [d] }
  | _ => none }
def FnExactTaiOfWrongFalsely : Prop := fnExactTaiOfRow.holds Try.pinned (OpenSpec.ofChange fnExactTaiOfWrong)

/-- 'laws.FnExactLimitKey': WHATEVER THE INPUT: true; the input reads as it did. -/
def fnExactLimitKeySpec : ChangeSpec := { name := "fnExactLimitKey", fn := fun _ => fun
  | [d] => { results := [.lit (.bool true)], args := [d] }
  | _ => none }
def fnExactLimitKeyRow : OpenClaim := { program := "ytfkeekhepkhjcaa", sum := "d9e97618e0af75a1cc9f34289bb7ce66ef1d751fb9cb6e5d23cfa2246fa2815c", func := "loop.example/s02974/laws.FnExactLimitKey", spec := "fnExactLimitKey", apart := false }
def FnExactLimitKeySaid : Prop := fnExactLimitKeyRow.holds Try.pinned (OpenSpec.ofChange fnExactLimitKeySpec)

/-- ITS FALSE NEIGHBOUR: 'it returns false'. Refute it at one input. -/
def fnExactLimitKeyWrong : ChangeSpec := { name := "fnExactLimitKey", fn := fun _ => fun
  | [d] => { results := [.lit (.bool false)], args := [d] }
  | _ => none }
def FnExactLimitKeyWrongFalsely : Prop := fnExactLimitKeyRow.holds Try.pinned (OpenSpec.ofChange fnExactLimitKeyWrong)

/-- 'laws.FnExactWriteSource': WHATEVER THE INPUT: true; the input reads as it did. -/
def fnExactWriteSourceSpec : ChangeSpec := { name := "fnExactWriteSource", fn := fun _ => fun
  | [d] => { results := [.lit (.bool true)], args := [d] }
  | _ => none }
def fnExactWriteSourceRow : OpenClaim := { program := "ytfkeekhepkhjcaa", sum := "d9e97618e0af75a1cc9f34289bb7ce66ef1d751fb9cb6e5d23cfa2246fa2815c", func := "loop.example/s02974/laws.FnExactWriteSource", spec := "fnExactWriteSource", apart := false }
def FnExactWriteSourceSaid : Prop := fnExactWriteSourceRow.holds Try.pinned (OpenSpec.ofChange fnExactWriteSourceSpec)

/-- ITS FALSE NEIGHBOUR: 'it returns false'. Refute it at one input. -/
def fnExactWriteSourceWrong : ChangeSpec := { name := "fnExactWriteSource", fn := fun _ => fun
  | [d] => { results := [.lit (.bool false)], args := [d] }
  | _ => none }
def FnExactWriteSourceWrongFalsely : Prop := fnExactWriteSourceRow.holds Try.pinned (OpenSpec.ofChange fnExactWriteSourceWrong)

/- THE SECOND FORM. 'bulk': how many values and letters a reading holds, each counted each time it is reached (what is shared counts as often as it is met; a slice's spare places count too). A statement '..UptoSaid' is the law's where the arguments, and the package variables that the reading takes, are together of bulk at most 1048576: NARROWER than '..Said'. Prove '..Said' where nothing that the law and all that it calls make is longer than what came in: it says more and counts as full. Else prove '..UptoSaid'. A law counts once. -/
mutual
def uptoBulk {H : Type} : DataW H → Nat
  | .lit (.string bytes) => bytes.length + 1
  | .lit _ => 1
  | .nil => 1
  | .ptr d => uptoBulk d + 1
  | .slice elems spare => uptoBulkAll elems + uptoBulkAll spare + 1
  | .agg parts => uptoBulkAll parts + 1
  | .iface _ d => uptoBulk d + 1
  | .map entries => uptoBulkEntries entries + 1
  | .held _ => 1
def uptoBulkAll {H : Type} : List (DataW H) → Nat
  | [] => 0
  | d :: r => uptoBulk d + uptoBulkAll r
def uptoBulkEntries {H : Type} : List (Lit × DataW H) → Nat
  | [] => 0
  | x :: r => uptoBulkEntry x + uptoBulkEntries r
def uptoBulkEntry {H : Type} : Lit × DataW H → Nat
  | (.string bytes, d) => bytes.length + uptoBulk d + 1
  | (_, d) => uptoBulk d + 1
 end
def uptoSmall : (H : Type) → List (DataW H) → Bool := fun _ ds => decide (uptoBulkAll ds ≤ 1048576)
def OpenSpec.upto (s : _root_.Go.ChangeSpec) : _root_.Go.OpenSpec := { _root_.Go.OpenSpec.ofChange s with cond := some uptoSmall }

/-- 'laws.FnExactTaiLess', WHERE WHAT IT READS IS OF BULK AT MOST 1048576: true; the input reads as it did. -/
def fnExactTaiLessUptoRow : OpenClaim := { program := "ytfkeekhepkhjcaa", sum := "d9e97618e0af75a1cc9f34289bb7ce66ef1d751fb9cb6e5d23cfa2246fa2815c", func := "loop.example/s02974/laws.FnExactTaiLess", spec := "fnExactTaiLess", inPlace := ["internal/bytealg.Compare"], apart := false, narrowed := true }
def FnExactTaiLessUptoSaid : Prop := fnExactTaiLessUptoRow.holds Try.pinned (OpenSpec.upto fnExactTaiLessSpec)

/-- 'laws.FnExactTaiOf', WHERE WHAT IT READS IS OF BULK AT MOST 1048576: true; the input reads as it did. -/
def fnExactTaiOfUptoRow : OpenClaim := { program := "ytfkeekhepkhjcaa", sum := "d9e97618e0af75a1cc9f34289bb7ce66ef1d751fb9cb6e5d23cfa2246fa2815c", func := "loop.example/s02974/laws.FnExactTaiOf", spec := "fnExactTaiOf", apart := false, narrowed := true }
def FnExactTaiOfUptoSaid : Prop := fnExactTaiOfUptoRow.holds Try.pinned (OpenSpec.upto fnExactTaiOfSpec)

/-- 'laws.FnExactLimitKey', WHERE WHAT IT READS IS OF BULK AT MOST 1048576: true; the input reads as it did. -/
def fnExactLimitKeyUptoRow : OpenClaim := { program := "ytfkeekhepkhjcaa", sum := "d9e97618e0af75a1cc9f34289bb7ce66ef1d751fb9cb6e5d23cfa2246fa2815c", func := "loop.example/s02974/laws.FnExactLimitKey", spec := "fnExactLimitKey", apart := false, narrowed := true }
def FnExactLimitKeyUptoSaid : Prop := fnExactLimitKeyUptoRow.holds Try.pinned (OpenSpec.upto fnExactLimitKeySpec)

/-- 'laws.FnExactWriteSource', WHERE WHAT IT READS IS OF BULK AT MOST 1048576: true; the input reads as it did. -/
def fnExactWriteSourceUptoRow : OpenClaim := { program := "ytfkeekhepkhjcaa", sum := "d9e97618e0af75a1cc9f34289bb7ce66ef1d751fb9cb6e5d23cfa2246fa2815c", func := "loop.example/s02974/laws.FnExactWriteSource", spec := "fnExactWriteSource", apart := false, narrowed := true }
def FnExactWriteSourceUptoSaid : Prop := fnExactWriteSourceUptoRow.holds Try.pinned (OpenSpec.upto fnExactWriteSourceSpec)

end Rows
end Go.Proofs.Ytfkeekhepkhjcaa
