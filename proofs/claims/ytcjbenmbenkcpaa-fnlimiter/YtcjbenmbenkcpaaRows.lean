/-
  No cell of these rows narrows 'for every input' (looked for: loops, veiled, ifaces, maps, wideKeys, modest, calm, conditions, laid).
  DERIVED. THE GIVEN ROWS OF THIS SEAT. 2 by the template 'for every input the law returns true; each argument reads behind the call as it read before'; 0 by the template 'total and deterministic' (their statements: YtcjbenmbenkcpaaTotals.lean).
  GIVEN WITH THE SEED: the statements are not yours to turn. If you find one false, say at which input.
  Laid BY PROGRAM, IN A SANDBOX (cutbox-rows.mjs): the forced cells as the released guide's own fill.sh prints them over the translation e860a87b1b359eb4… (all of the seat's roots in one cut). By AI agents, Wed Nov 11 2026. No macro, syntax, notation, axiom, sorry.
-/
import Derived.Test.YtcjbenmbenkcpaaChecked
import GoSem.Claim
import GoSem.ClaimJoined
import GoSem.ClaimMapViews
import Derived.JoinedTies
import Derived.KernelRfl
namespace Go.Proofs.Ytcjbenmbenkcpaa
/- THE CELL 'sum', in the pinned program and in every row, IS THE sha256 OF THE DUMP (.gsa) THAT YtcjbenmbenkcpaaProg.lean LOADS. Nothing in Lean hashes anything: it is a label: what it is worth is what the hold of that sum in a sandbox is worth. -/
noncomputable def Try.pinned : Pinned := { name := "ytcjbenmbenkcpaa", sum := "e860a87b1b359eb4e221821c613a78b77188bb26f8950eda3a4b708300c012ca", checked := Try.checked }
namespace Rows
def none {H : Type} : Left H := { results := [], args := [] }

/-- 'laws.FnLimiter': WHATEVER THE INPUT: true; the input reads as it did. -/
def fnLimiterSpec : ChangeSpec := { name := "fnLimiter", fn := fun _ => fun
  | [d] => { results := [.lit (.bool true)], args := [d] }
  | _ => none }
def fnLimiterRow : OpenClaim := { program := "ytcjbenmbenkcpaa", sum := "e860a87b1b359eb4e221821c613a78b77188bb26f8950eda3a4b708300c012ca", func := "loop.example/s02974/laws.FnLimiter", spec := "fnLimiter", unfollowed := true, recurses := true, plainKeys := false, apart := false }
def FnLimiterSaid : Prop := fnLimiterRow.holds Try.pinned (OpenSpec.ofChange fnLimiterSpec)

/-- ITS FALSE NEIGHBOUR: 'it returns false'. Refute it at one input. -/
def fnLimiterWrong : ChangeSpec := { name := "fnLimiter", fn := fun _ => fun
  | [d] => { results := [.lit (.bool false)], args := [d] }
  | _ => none }
def FnLimiterWrongFalsely : Prop := fnLimiterRow.holds Try.pinned (OpenSpec.ofChange fnLimiterWrong)

/-- 'laws.FnExactAllow': WHATEVER THE INPUT: true; the input reads as it did. -/
def fnExactAllowSpec : ChangeSpec := { name := "fnExactAllow", fn := fun _ => fun
  | [d1, d2, d3] => { results := [.lit (.bool true)], args := [d1, d2, d3] }
  | _ => none }
def fnExactAllowRow : OpenClaim := { program := "ytcjbenmbenkcpaa", sum := "e860a87b1b359eb4e221821c613a78b77188bb26f8950eda3a4b708300c012ca", func := "loop.example/s02974/laws.FnExactAllow", spec := "fnExactAllow", unfollowed := true, recurses := true, plainKeys := false, apart := false }
def FnExactAllowSaid : Prop := fnExactAllowRow.holds Try.pinned (OpenSpec.ofChange fnExactAllowSpec)

/-- ITS FALSE NEIGHBOUR: 'it returns false'. Refute it at one input. -/
def fnExactAllowWrong : ChangeSpec := { name := "fnExactAllow", fn := fun _ => fun
  | [d1, d2, d3] => { results := [.lit (.bool false)], args := [d1, d2, d3] }
  | _ => none }
def FnExactAllowWrongFalsely : Prop := fnExactAllowRow.holds Try.pinned (OpenSpec.ofChange fnExactAllowWrong)

/- THE SECOND FORM. 'bulk': how many values and letters a reading holds, each counted each time it is reached (what is shared counts as often as it is met; a slice's spare places count too). A statement '..UptoSaid' is the law's where the arguments, and the package variables that the reading takes, are together of bulk at most 1048576: NARROWER than '..Said'. Prove '..Said' where nothing that the law and all that it calls make is longer than what came in: it says more and counts as full. Else prove '..UptoSaid'. A law counts once. -/
mutual
def uptoBulk {H : Type} : DataW H → Nat
  | .lit (.string bytes) => bytes.length + 1
  | .lit _ => 1
  | .nil => 1
  | .ptr d => uptoBulk d + 1
  | .slice elems spare => uptoBulkAll elems + uptoBulkAll spare + 1
  | .agg parts => uptoBulkAll parts + 1
  | .iface _ d => uptoBulk d + 1
  | .map entries => uptoBulkEntries entries + 1
  | .held _ => 1
def uptoBulkAll {H : Type} : List (DataW H) → Nat
  | [] => 0
  | d :: r => uptoBulk d + uptoBulkAll r
def uptoBulkEntries {H : Type} : List (Lit × DataW H) → Nat
  | [] => 0
  | x :: r => uptoBulkEntry x + uptoBulkEntries r
def uptoBulkEntry {H : Type} : Lit × DataW H → Nat
  | (.string bytes, d) => bytes.length + uptoBulk d + 1
  | (_, d) => uptoBulk d + 1
 end
def uptoSmall : (H : Type) → List (DataW H) → Bool := fun _ ds => decide (uptoBulkAll ds ≤ 1048576)
def OpenSpec.upto (s : _root_.Go.ChangeSpec) : _root_.Go.OpenSpec := { _root_.Go.OpenSpec.ofChange s with cond := some uptoSmall }

/-- 'laws.FnLimiter', WHERE WHAT IT READS IS OF BULK AT MOST 1048576: true; the input reads as it did. -/
def fnLimiterUptoRow : OpenClaim := { program := "ytcjbenmbenkcpaa", sum := "e860a87b1b359eb4e221821c613a78b77188bb26f8950eda3a4b708300c012ca", func := "loop.example/s02974/laws.FnLimiter", spec := "fnLimiter", unfollowed := true, recurses := true, plainKeys := false, apart := false, narrowed := true }
def FnLimiterUptoSaid : Prop := fnLimiterUptoRow.holds Try.pinned (OpenSpec.upto fnLimiterSpec)

/-- 'laws.FnExactAllow', WHERE WHAT IT READS IS OF BULK AT MOST 1048576: true; the input reads as it did. -/
def fnExactAllowUptoRow : OpenClaim := { program := "ytcjbenmbenkcpaa", sum := "e860a87b1b359eb4e221821c613a78b77188bb26f8950eda3a4b708300c012ca", func := "loop.example/s02974/laws.FnExactAllow", spec := "fnExactAllow", unfollowed := true, recurses := true, plainKeys := false, apart := false, narrowed := true }
def FnExactAllowUptoSaid : Prop := fnExactAllowUptoRow.holds Try.pinned (OpenSpec.upto fnExactAllowSpec)

end Rows
end Go.Proofs.Ytcjbenmbenkcpaa
