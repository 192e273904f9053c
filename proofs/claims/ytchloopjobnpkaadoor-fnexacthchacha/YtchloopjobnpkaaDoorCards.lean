/-
  DERIVED. GIVEN WITH THE SEED: THE CARDS: each row of YtchloopjobnpkaaDoorRows.lean that lists a variable, with what it lists TIED to the program's text (the seventh form; the later family's looks); each row that meets fmt, with fmt's text TOLD by the authors' own Lean function (tested against real Go, not proved from fmt's source: count such statements apart). THE CARD IS WHAT COUNTS. Prove the row's statement (the work); the ties are given (YtchloopjobnpkaaDoorTie.lean); close each card by the builder's one call (the guide's Derived/Test/ToyasCard.lean, 'card_holds'). Laid BY PROGRAM, IN A SANDBOX (cutbox-door.mjs). By AI agents, Wed Nov 11 2026. No macro, syntax, notation, axiom, sorry.
-/
import Derived.Test.YtchloopjobnpkaaDoorRows
import GoSem.ClaimSeven
namespace Go.Proofs.YtchloopjobnpkaaDoor
namespace Rows

/-- THE TIED CARD OF 'laws.FnExactChaBlock'. -/
def fnExactChaBlockCard : Claim7 := { stood := { row := fnExactChaBlockRow, standIns := [], harness := (true, "0d43d9387804855d85bc02439c9cb1c6d1108f9cf61e61d4183949b5b6b951f2"), looks := false }, kinds := [], alts := [], laidByText := true, laidKinds := [.data], laidTests := true, laidLooks := .later }
def FnExactChaBlockCardSaid : Prop := Claim7.holds Tryd.pinned (.plain (OpenSpec.ofChange fnExactChaBlockSpec)) fnExactChaBlockCard

/-- THE TIED CARD OF 'laws.FnExactHChaCha'. -/
def fnExactHChaChaCard : Claim7 := { stood := { row := fnExactHChaChaRow, standIns := [], harness := (true, "0d43d9387804855d85bc02439c9cb1c6d1108f9cf61e61d4183949b5b6b951f2"), looks := false }, kinds := [], alts := [], laidByText := true, laidKinds := [.data], laidTests := true, laidLooks := .later }
def FnExactHChaChaCardSaid : Prop := Claim7.holds Tryd.pinned (.plain (OpenSpec.ofChange fnExactHChaChaSpec)) fnExactHChaChaCard

/-- THE TIED CARD OF 'laws.FnExactHash'. -/
def fnExactHashCard : Claim7 := { stood := { row := fnExactHashRow, standIns := [], harness := (true, "0d43d9387804855d85bc02439c9cb1c6d1108f9cf61e61d4183949b5b6b951f2"), looks := false }, kinds := [], alts := [], laidByText := true, laidKinds := [.data, .data, .data], laidTests := true, laidLooks := .later }
def FnExactHashCardSaid : Prop := Claim7.holds Tryd.pinned (.plain (OpenSpec.ofChange fnExactHashSpec)) fnExactHashCard

/-- THE TIED CARD OF 'laws.FnExactMac'. -/
def fnExactMacCard : Claim7 := { stood := { row := fnExactMacRow, standIns := [], harness := (true, "0d43d9387804855d85bc02439c9cb1c6d1108f9cf61e61d4183949b5b6b951f2"), looks := false }, kinds := [], alts := [], laidByText := true, laidKinds := [.data, .data, .data], laidTests := true, laidLooks := .later }
def FnExactMacCardSaid : Prop := Claim7.holds Tryd.pinned (.plain (OpenSpec.ofChange fnExactMacSpec)) fnExactMacCard

/-- THE TIED CARD OF 'laws.FnExactHmac'. -/
def fnExactHmacCard : Claim7 := { stood := { row := fnExactHmacRow, standIns := [], harness := (true, "0d43d9387804855d85bc02439c9cb1c6d1108f9cf61e61d4183949b5b6b951f2"), looks := false }, kinds := [], alts := [], laidByText := true, laidKinds := [.data, .data, .data], laidTests := true, laidLooks := .later }
def FnExactHmacCardSaid : Prop := Claim7.holds Tryd.pinned (.plain (OpenSpec.ofChange fnExactHmacSpec)) fnExactHmacCard

/-- THE TIED CARD OF 'laws.FnExactKdf'. -/
def fnExactKdfCard : Claim7 := { stood := { row := fnExactKdfRow, standIns := [], harness := (true, "0d43d9387804855d85bc02439c9cb1c6d1108f9cf61e61d4183949b5b6b951f2"), looks := false }, kinds := [], alts := [], laidByText := true, laidKinds := [.data, .data, .data], laidTests := true, laidLooks := .later }
def FnExactKdfCardSaid : Prop := Claim7.holds Tryd.pinned (.plain (OpenSpec.ofChange fnExactKdfSpec)) fnExactKdfCard

/-- THE TIED CARD OF 'laws.FnHashing'. -/
def fnHashingCard : Claim7 := { stood := { row := fnHashingRow, standIns := [], harness := (true, "0d43d9387804855d85bc02439c9cb1c6d1108f9cf61e61d4183949b5b6b951f2"), looks := false }, kinds := [], alts := [], laidByText := true, laidKinds := [.data, .data, .data], laidTests := true, laidLooks := .later }
def FnHashingCardSaid : Prop := Claim7.holds Tryd.pinned (.plain (OpenSpec.ofChange fnHashingSpec)) fnHashingCard

/-- THE TIED CARD OF 'laws.FnExactSeal'. -/
def fnExactSealCard : Claim7 := { stood := { row := fnExactSealRow, standIns := [], harness := (true, "0d43d9387804855d85bc02439c9cb1c6d1108f9cf61e61d4183949b5b6b951f2"), looks := false }, kinds := [], alts := [], laidByText := true, laidKinds := [.data], laidTests := true, laidLooks := .later }
def FnExactSealCardSaid : Prop := Claim7.holds Tryd.pinned (.plain (OpenSpec.ofChange fnExactSealSpec)) fnExactSealCard

/-- THE TIED CARD OF 'laws.FnExactOpen'. -/
def fnExactOpenCard : Claim7 := { stood := { row := fnExactOpenRow, standIns := [], harness := (true, "0d43d9387804855d85bc02439c9cb1c6d1108f9cf61e61d4183949b5b6b951f2"), looks := false }, kinds := [], alts := [], laidByText := true, laidKinds := [.data], laidTests := true, laidLooks := .later }
def FnExactOpenCardSaid : Prop := Claim7.holds Tryd.pinned (.plain (OpenSpec.ofChange fnExactOpenSpec)) fnExactOpenCard

/-- THE TIED CARD OF 'laws.FnExactXSeal'. -/
def fnExactXSealCard : Claim7 := { stood := { row := fnExactXSealRow, standIns := [], harness := (true, "0d43d9387804855d85bc02439c9cb1c6d1108f9cf61e61d4183949b5b6b951f2"), looks := false }, kinds := [], alts := [], laidByText := true, laidKinds := [.data], laidTests := true, laidLooks := .later }
def FnExactXSealCardSaid : Prop := Claim7.holds Tryd.pinned (.plain (OpenSpec.ofChange fnExactXSealSpec)) fnExactXSealCard

/-- THE TIED CARD OF 'laws.FnExactXOpen'. -/
def fnExactXOpenCard : Claim7 := { stood := { row := fnExactXOpenRow, standIns := [], harness := (true, "0d43d9387804855d85bc02439c9cb1c6d1108f9cf61e61d4183949b5b6b951f2"), looks := false }, kinds := [], alts := [], laidByText := true, laidKinds := [.data], laidTests := true, laidLooks := .later }
def FnExactXOpenCardSaid : Prop := Claim7.holds Tryd.pinned (.plain (OpenSpec.ofChange fnExactXOpenSpec)) fnExactXOpenCard

/-- THE TIED CARD OF 'laws.FnSealing'. -/
def fnSealingCard : Claim7 := { stood := { row := fnSealingRow, standIns := [], harness := (true, "0d43d9387804855d85bc02439c9cb1c6d1108f9cf61e61d4183949b5b6b951f2"), looks := false }, kinds := [], alts := [], laidByText := true, laidKinds := [.data], laidTests := true, laidLooks := .later }
def FnSealingCardSaid : Prop := Claim7.holds Tryd.pinned (.plain (OpenSpec.ofChange fnSealingSpec)) fnSealingCard

/-- THE SECOND FORM's CARD OF 'laws.FnExactChaBlock'. -/
def fnExactChaBlockUptoCard : Claim7 := { stood := { row := fnExactChaBlockUptoRow, standIns := [], harness := (true, "0d43d9387804855d85bc02439c9cb1c6d1108f9cf61e61d4183949b5b6b951f2"), looks := false }, kinds := [], alts := [], laidByText := true, laidKinds := [.data], laidTests := true, laidLooks := .later }
def FnExactChaBlockUptoCardSaid : Prop := Claim7.holds Tryd.pinned (.plain (OpenSpec.upto fnExactChaBlockSpec)) fnExactChaBlockUptoCard

/-- THE SECOND FORM's CARD OF 'laws.FnExactHChaCha'. -/
def fnExactHChaChaUptoCard : Claim7 := { stood := { row := fnExactHChaChaUptoRow, standIns := [], harness := (true, "0d43d9387804855d85bc02439c9cb1c6d1108f9cf61e61d4183949b5b6b951f2"), looks := false }, kinds := [], alts := [], laidByText := true, laidKinds := [.data], laidTests := true, laidLooks := .later }
def FnExactHChaChaUptoCardSaid : Prop := Claim7.holds Tryd.pinned (.plain (OpenSpec.upto fnExactHChaChaSpec)) fnExactHChaChaUptoCard

/-- THE SECOND FORM's CARD OF 'laws.FnExactHash'. -/
def fnExactHashUptoCard : Claim7 := { stood := { row := fnExactHashUptoRow, standIns := [], harness := (true, "0d43d9387804855d85bc02439c9cb1c6d1108f9cf61e61d4183949b5b6b951f2"), looks := false }, kinds := [], alts := [], laidByText := true, laidKinds := [.data, .data, .data], laidTests := true, laidLooks := .later }
def FnExactHashUptoCardSaid : Prop := Claim7.holds Tryd.pinned (.plain (OpenSpec.upto fnExactHashSpec)) fnExactHashUptoCard

/-- THE SECOND FORM's CARD OF 'laws.FnExactMac'. -/
def fnExactMacUptoCard : Claim7 := { stood := { row := fnExactMacUptoRow, standIns := [], harness := (true, "0d43d9387804855d85bc02439c9cb1c6d1108f9cf61e61d4183949b5b6b951f2"), looks := false }, kinds := [], alts := [], laidByText := true, laidKinds := [.data, .data, .data], laidTests := true, laidLooks := .later }
def FnExactMacUptoCardSaid : Prop := Claim7.holds Tryd.pinned (.plain (OpenSpec.upto fnExactMacSpec)) fnExactMacUptoCard

/-- THE SECOND FORM's CARD OF 'laws.FnExactHmac'. -/
def fnExactHmacUptoCard : Claim7 := { stood := { row := fnExactHmacUptoRow, standIns := [], harness := (true, "0d43d9387804855d85bc02439c9cb1c6d1108f9cf61e61d4183949b5b6b951f2"), looks := false }, kinds := [], alts := [], laidByText := true, laidKinds := [.data, .data, .data], laidTests := true, laidLooks := .later }
def FnExactHmacUptoCardSaid : Prop := Claim7.holds Tryd.pinned (.plain (OpenSpec.upto fnExactHmacSpec)) fnExactHmacUptoCard

/-- THE SECOND FORM's CARD OF 'laws.FnExactKdf'. -/
def fnExactKdfUptoCard : Claim7 := { stood := { row := fnExactKdfUptoRow, standIns := [], harness := (true, "0d43d9387804855d85bc02439c9cb1c6d1108f9cf61e61d4183949b5b6b951f2"), looks := false }, kinds := [], alts := [], laidByText := true, laidKinds := [.data, .data, .data], laidTests := true, laidLooks := .later }
def FnExactKdfUptoCardSaid : Prop := Claim7.holds Tryd.pinned (.plain (OpenSpec.upto fnExactKdfSpec)) fnExactKdfUptoCard

/-- THE SECOND FORM's CARD OF 'laws.FnHashing'. -/
def fnHashingUptoCard : Claim7 := { stood := { row := fnHashingUptoRow, standIns := [], harness := (true, "0d43d9387804855d85bc02439c9cb1c6d1108f9cf61e61d4183949b5b6b951f2"), looks := false }, kinds := [], alts := [], laidByText := true, laidKinds := [.data, .data, .data], laidTests := true, laidLooks := .later }
def FnHashingUptoCardSaid : Prop := Claim7.holds Tryd.pinned (.plain (OpenSpec.upto fnHashingSpec)) fnHashingUptoCard

/-- THE SECOND FORM's CARD OF 'laws.FnExactSeal'. -/
def fnExactSealUptoCard : Claim7 := { stood := { row := fnExactSealUptoRow, standIns := [], harness := (true, "0d43d9387804855d85bc02439c9cb1c6d1108f9cf61e61d4183949b5b6b951f2"), looks := false }, kinds := [], alts := [], laidByText := true, laidKinds := [.data], laidTests := true, laidLooks := .later }
def FnExactSealUptoCardSaid : Prop := Claim7.holds Tryd.pinned (.plain (OpenSpec.upto fnExactSealSpec)) fnExactSealUptoCard

/-- THE SECOND FORM's CARD OF 'laws.FnExactOpen'. -/
def fnExactOpenUptoCard : Claim7 := { stood := { row := fnExactOpenUptoRow, standIns := [], harness := (true, "0d43d9387804855d85bc02439c9cb1c6d1108f9cf61e61d4183949b5b6b951f2"), looks := false }, kinds := [], alts := [], laidByText := true, laidKinds := [.data], laidTests := true, laidLooks := .later }
def FnExactOpenUptoCardSaid : Prop := Claim7.holds Tryd.pinned (.plain (OpenSpec.upto fnExactOpenSpec)) fnExactOpenUptoCard

/-- THE SECOND FORM's CARD OF 'laws.FnExactXSeal'. -/
def fnExactXSealUptoCard : Claim7 := { stood := { row := fnExactXSealUptoRow, standIns := [], harness := (true, "0d43d9387804855d85bc02439c9cb1c6d1108f9cf61e61d4183949b5b6b951f2"), looks := false }, kinds := [], alts := [], laidByText := true, laidKinds := [.data], laidTests := true, laidLooks := .later }
def FnExactXSealUptoCardSaid : Prop := Claim7.holds Tryd.pinned (.plain (OpenSpec.upto fnExactXSealSpec)) fnExactXSealUptoCard

/-- THE SECOND FORM's CARD OF 'laws.FnExactXOpen'. -/
def fnExactXOpenUptoCard : Claim7 := { stood := { row := fnExactXOpenUptoRow, standIns := [], harness := (true, "0d43d9387804855d85bc02439c9cb1c6d1108f9cf61e61d4183949b5b6b951f2"), looks := false }, kinds := [], alts := [], laidByText := true, laidKinds := [.data], laidTests := true, laidLooks := .later }
def FnExactXOpenUptoCardSaid : Prop := Claim7.holds Tryd.pinned (.plain (OpenSpec.upto fnExactXOpenSpec)) fnExactXOpenUptoCard

/-- THE SECOND FORM's CARD OF 'laws.FnSealing'. -/
def fnSealingUptoCard : Claim7 := { stood := { row := fnSealingUptoRow, standIns := [], harness := (true, "0d43d9387804855d85bc02439c9cb1c6d1108f9cf61e61d4183949b5b6b951f2"), looks := false }, kinds := [], alts := [], laidByText := true, laidKinds := [.data], laidTests := true, laidLooks := .later }
def FnSealingUptoCardSaid : Prop := Claim7.holds Tryd.pinned (.plain (OpenSpec.upto fnSealingSpec)) fnSealingUptoCard
end Rows
end Go.Proofs.YtchloopjobnpkaaDoor
