/-
  DERIVED. GIVEN WITH THE SEED: THE CARDS: each row of YtgcepckaolkeoaaGreatDoorRows.lean that lists a variable, with what it lists TIED to the program's text (the seventh form; the later family's looks); each row that meets fmt, with fmt's text TOLD by the authors' own Lean function (tested against real Go, not proved from fmt's source: count such statements apart). THE CARD IS WHAT COUNTS. Prove the row's statement (the work); the ties are given (YtgcepckaolkeoaaGreatDoorTie.lean); close each card by the builder's one call (the guide's Derived/Test/ToyasCard.lean, 'card_holds'). Laid BY PROGRAM, IN A SANDBOX (cutbox-door.mjs). By AI agents, Wed Nov 11 2026. No macro, syntax, notation, axiom, sorry.
-/
import Derived.Test.YtgcepckaolkeoaaGreatDoorRows
import GoSem.ClaimSeven
namespace Go.Proofs.YtgcepckaolkeoaaGreatDoor
namespace Rows

/-- THE TIED CARD OF 'laws.FnExactCreateInit'. -/
def fnExactCreateInitCard : Claim7 := { stood := { row := fnExactCreateInitRow, standIns := [], harness := (true, "59b6443f5bd898882d99d06e5e7878924aae82eeaeb1aef88743f4d4fad60ab8"), looks := true }, kinds := [], alts := [], laidByText := true, laidKinds := [.handle, .data, .data, .data], laidTests := true, laidLooks := .later }
def FnExactCreateInitCardSaid : Prop := Claim7.holds Tryz.pinned (.plain (OpenSpec.ofChange fnExactCreateInitSpec)) fnExactCreateInitCard

/-- THE TIED CARD OF 'laws.FnExactConsumeInit'. -/
def fnExactConsumeInitCard : Claim7 := { stood := { row := fnExactConsumeInitRow, standIns := [], harness := (true, "59b6443f5bd898882d99d06e5e7878924aae82eeaeb1aef88743f4d4fad60ab8"), looks := true }, kinds := [], alts := [], laidByText := true, laidKinds := [.handle, .data, .data, .data], laidTests := true, laidLooks := .later }
def FnExactConsumeInitCardSaid : Prop := Claim7.holds Tryz.pinned (.plain (OpenSpec.ofChange fnExactConsumeInitSpec)) fnExactConsumeInitCard

/-- THE TIED CARD OF 'laws.FnHandshake'. -/
def fnHandshakeCard : Claim7 := { stood := { row := fnHandshakeRow, standIns := [], harness := (true, "59b6443f5bd898882d99d06e5e7878924aae82eeaeb1aef88743f4d4fad60ab8"), looks := true }, kinds := [], alts := [], laidByText := true, laidKinds := [.handle, .data, .data, .data], laidTests := true, laidLooks := .later }
def FnHandshakeCardSaid : Prop := Claim7.holds Tryz.pinned (.plain (OpenSpec.ofChange fnHandshakeSpec)) fnHandshakeCard

/-- THE SECOND FORM's CARD OF 'laws.FnExactCreateInit'. -/
def fnExactCreateInitUptoCard : Claim7 := { stood := { row := fnExactCreateInitUptoRow, standIns := [], harness := (true, "59b6443f5bd898882d99d06e5e7878924aae82eeaeb1aef88743f4d4fad60ab8"), looks := true }, kinds := [], alts := [], laidByText := true, laidKinds := [.handle, .data, .data, .data], laidTests := true, laidLooks := .later }
def FnExactCreateInitUptoCardSaid : Prop := Claim7.holds Tryz.pinned (.plain (OpenSpec.upto fnExactCreateInitSpec)) fnExactCreateInitUptoCard

/-- THE SECOND FORM's CARD OF 'laws.FnExactConsumeInit'. -/
def fnExactConsumeInitUptoCard : Claim7 := { stood := { row := fnExactConsumeInitUptoRow, standIns := [], harness := (true, "59b6443f5bd898882d99d06e5e7878924aae82eeaeb1aef88743f4d4fad60ab8"), looks := true }, kinds := [], alts := [], laidByText := true, laidKinds := [.handle, .data, .data, .data], laidTests := true, laidLooks := .later }
def FnExactConsumeInitUptoCardSaid : Prop := Claim7.holds Tryz.pinned (.plain (OpenSpec.upto fnExactConsumeInitSpec)) fnExactConsumeInitUptoCard

/-- THE SECOND FORM's CARD OF 'laws.FnHandshake'. -/
def fnHandshakeUptoCard : Claim7 := { stood := { row := fnHandshakeUptoRow, standIns := [], harness := (true, "59b6443f5bd898882d99d06e5e7878924aae82eeaeb1aef88743f4d4fad60ab8"), looks := true }, kinds := [], alts := [], laidByText := true, laidKinds := [.handle, .data, .data, .data], laidTests := true, laidLooks := .later }
def FnHandshakeUptoCardSaid : Prop := Claim7.holds Tryz.pinned (.plain (OpenSpec.upto fnHandshakeSpec)) fnHandshakeUptoCard
end Rows
end Go.Proofs.YtgcepckaolkeoaaGreatDoor
