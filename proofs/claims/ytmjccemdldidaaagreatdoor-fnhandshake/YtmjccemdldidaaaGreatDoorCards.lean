/-
  DERIVED. GIVEN WITH THE SEED: THE CARDS: each row of YtmjccemdldidaaaGreatDoorRows.lean that lists a variable, with what it lists TIED to the program's text (the seventh form; the later family's looks); each row that meets fmt, with fmt's text TOLD by the authors' own Lean function (tested against real Go, not proved from fmt's source: count such statements apart). THE CARD IS WHAT COUNTS. Prove the row's statement (the work); the ties are given (YtmjccemdldidaaaGreatDoorTie.lean); close each card by the builder's one call (the guide's Derived/Test/ToyasCard.lean, 'card_holds'). Laid BY PROGRAM, IN A SANDBOX (cutbox-door.mjs). By AI agents, Wed Nov 11 2026. No macro, syntax, notation, axiom, sorry.
-/
import Derived.Test.YtmjccemdldidaaaGreatDoorRows
import GoSem.ClaimSeven
namespace Go.Proofs.YtmjccemdldidaaaGreatDoor
namespace Rows

/-- THE TIED CARD OF 'laws.FnHandshake'. -/
def fnHandshakeCard : Claim7 := { stood := { row := fnHandshakeRow, standIns := [], harness := (true, "2ea00caa6df93f4be8d85d882d53e2b6e1409440156a4ec42e5ef685fbb89c28"), looks := true }, kinds := [], alts := [], laidByText := true, laidKinds := [.handle, .data, .data, .data], laidTests := true, laidLooks := .later }
def FnHandshakeCardSaid : Prop := Claim7.holds Tryz.pinned (.plain (OpenSpec.ofChange fnHandshakeSpec)) fnHandshakeCard

/-- THE SECOND FORM's CARD OF 'laws.FnHandshake'. -/
def fnHandshakeUptoCard : Claim7 := { stood := { row := fnHandshakeUptoRow, standIns := [], harness := (true, "2ea00caa6df93f4be8d85d882d53e2b6e1409440156a4ec42e5ef685fbb89c28"), looks := true }, kinds := [], alts := [], laidByText := true, laidKinds := [.handle, .data, .data, .data], laidTests := true, laidLooks := .later }
def FnHandshakeUptoCardSaid : Prop := Claim7.holds Tryz.pinned (.plain (OpenSpec.upto fnHandshakeSpec)) fnHandshakeUptoCard
end Rows
end Go.Proofs.YtmjccemdldidaaaGreatDoor
