/-
  DERIVED. GIVEN WITH THE SEED: THE CARDS: each row of YtfipcjchjpihkaaDoorRows.lean that lists a variable, with what it lists TIED to the program's text (the seventh form; the later family's looks); each row that meets fmt, with fmt's text TOLD by the authors' own Lean function (tested against real Go, not proved from fmt's source: count such statements apart). THE CARD IS WHAT COUNTS. Prove the row's statement (the work); the ties are given (YtfipcjchjpihkaaDoorTie.lean); close each card by the builder's one call (the guide's Derived/Test/ToyasCard.lean, 'card_holds'). Laid BY PROGRAM, IN A SANDBOX (cutbox-door.mjs). By AI agents, Wed Nov 11 2026. No macro, syntax, notation, axiom, sorry.
-/
import Derived.Test.YtfipcjchjpihkaaDoorRows
import GoSem.ClaimSeven
namespace Go.Proofs.YtfipcjchjpihkaaDoor
namespace Rows

/-- THE TIED CARD OF 'laws.FnExactOpenReply'. -/
def fnExactOpenReplyCard : Claim7 := { stood := { row := fnExactOpenReplyRow, standIns := [], harness := (true, "1cfef088dd73188990b9f517493e2b9023d98a6c9622bb7d44f01ed82ec30e80"), looks := false }, kinds := [], alts := [], laidByText := true, laidKinds := [.data, .data, .data], laidTests := true, laidLooks := .later }
def FnExactOpenReplyCardSaid : Prop := Claim7.holds Tryd.pinned (.plain (OpenSpec.ofChange fnExactOpenReplySpec)) fnExactOpenReplyCard

/-- THE TIED CARD OF 'laws.FnExactMakeReply'. -/
def fnExactMakeReplyCard : Claim7 := { stood := { row := fnExactMakeReplyRow, standIns := [], harness := (true, "1cfef088dd73188990b9f517493e2b9023d98a6c9622bb7d44f01ed82ec30e80"), looks := false }, kinds := [], alts := [], laidByText := true, laidKinds := [.data, .data, .data], laidTests := true, laidLooks := .later }
def FnExactMakeReplyCardSaid : Prop := Claim7.holds Tryd.pinned (.plain (OpenSpec.ofChange fnExactMakeReplySpec)) fnExactMakeReplyCard

/-- THE SECOND FORM's CARD OF 'laws.FnExactOpenReply'. -/
def fnExactOpenReplyUptoCard : Claim7 := { stood := { row := fnExactOpenReplyUptoRow, standIns := [], harness := (true, "1cfef088dd73188990b9f517493e2b9023d98a6c9622bb7d44f01ed82ec30e80"), looks := false }, kinds := [], alts := [], laidByText := true, laidKinds := [.data, .data, .data], laidTests := true, laidLooks := .later }
def FnExactOpenReplyUptoCardSaid : Prop := Claim7.holds Tryd.pinned (.plain (OpenSpec.upto fnExactOpenReplySpec)) fnExactOpenReplyUptoCard

/-- THE SECOND FORM's CARD OF 'laws.FnExactMakeReply'. -/
def fnExactMakeReplyUptoCard : Claim7 := { stood := { row := fnExactMakeReplyUptoRow, standIns := [], harness := (true, "1cfef088dd73188990b9f517493e2b9023d98a6c9622bb7d44f01ed82ec30e80"), looks := false }, kinds := [], alts := [], laidByText := true, laidKinds := [.data, .data, .data], laidTests := true, laidLooks := .later }
def FnExactMakeReplyUptoCardSaid : Prop := Claim7.holds Tryd.pinned (.plain (OpenSpec.upto fnExactMakeReplySpec)) fnExactMakeReplyUptoCard
end Rows
end Go.Proofs.YtfipcjchjpihkaaDoor
