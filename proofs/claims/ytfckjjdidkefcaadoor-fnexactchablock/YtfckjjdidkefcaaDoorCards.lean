/-
  DERIVED. GIVEN WITH THE SEED: THE CARDS: each row of YtfckjjdidkefcaaDoorRows.lean that lists a variable, with what it lists TIED to the program's text (the seventh form; the later family's looks); each row that meets fmt, with fmt's text TOLD by the authors' own Lean function (tested against real Go, not proved from fmt's source: count such statements apart). THE CARD IS WHAT COUNTS. Prove the row's statement (the work); the ties are given (YtfckjjdidkefcaaDoorTie.lean); close each card by the builder's one call (the guide's Derived/Test/ToyasCard.lean, 'card_holds'). Laid BY PROGRAM, IN A SANDBOX (cutbox-door.mjs). By AI agents, Wed Nov 11 2026. No macro, syntax, notation, axiom, sorry.
-/
import Derived.Test.YtfckjjdidkefcaaDoorRows
import GoSem.ClaimSeven
namespace Go.Proofs.YtfckjjdidkefcaaDoor
namespace Rows

/-- THE TIED CARD OF 'laws.FnExactChaBlock'. -/
def fnExactChaBlockCard : Claim7 := { stood := { row := fnExactChaBlockRow, standIns := [], harness := (true, "b2e7eced0801fd41baa741d739bfc4b4fa8b6a50985d0af5a9e8f6c970d09e6b"), looks := false }, kinds := [], alts := [], laidByText := true, laidKinds := [.data], laidTests := true, laidLooks := .later }
def FnExactChaBlockCardSaid : Prop := Claim7.holds Tryd.pinned (.plain (OpenSpec.ofChange fnExactChaBlockSpec)) fnExactChaBlockCard

/-- THE TIED CARD OF 'laws.FnExactHChaCha'. -/
def fnExactHChaChaCard : Claim7 := { stood := { row := fnExactHChaChaRow, standIns := [], harness := (true, "b2e7eced0801fd41baa741d739bfc4b4fa8b6a50985d0af5a9e8f6c970d09e6b"), looks := false }, kinds := [], alts := [], laidByText := true, laidKinds := [.data], laidTests := true, laidLooks := .later }
def FnExactHChaChaCardSaid : Prop := Claim7.holds Tryd.pinned (.plain (OpenSpec.ofChange fnExactHChaChaSpec)) fnExactHChaChaCard

/-- THE SECOND FORM's CARD OF 'laws.FnExactChaBlock'. -/
def fnExactChaBlockUptoCard : Claim7 := { stood := { row := fnExactChaBlockUptoRow, standIns := [], harness := (true, "b2e7eced0801fd41baa741d739bfc4b4fa8b6a50985d0af5a9e8f6c970d09e6b"), looks := false }, kinds := [], alts := [], laidByText := true, laidKinds := [.data], laidTests := true, laidLooks := .later }
def FnExactChaBlockUptoCardSaid : Prop := Claim7.holds Tryd.pinned (.plain (OpenSpec.upto fnExactChaBlockSpec)) fnExactChaBlockUptoCard

/-- THE SECOND FORM's CARD OF 'laws.FnExactHChaCha'. -/
def fnExactHChaChaUptoCard : Claim7 := { stood := { row := fnExactHChaChaUptoRow, standIns := [], harness := (true, "b2e7eced0801fd41baa741d739bfc4b4fa8b6a50985d0af5a9e8f6c970d09e6b"), looks := false }, kinds := [], alts := [], laidByText := true, laidKinds := [.data], laidTests := true, laidLooks := .later }
def FnExactHChaChaUptoCardSaid : Prop := Claim7.holds Tryd.pinned (.plain (OpenSpec.upto fnExactHChaChaSpec)) fnExactHChaChaUptoCard
end Rows
end Go.Proofs.YtfckjjdidkefcaaDoor
