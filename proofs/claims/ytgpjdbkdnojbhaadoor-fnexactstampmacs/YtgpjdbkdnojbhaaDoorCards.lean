/-
  DERIVED. GIVEN WITH THE SEED: THE CARDS: each row of YtgpjdbkdnojbhaaDoorRows.lean that lists a variable, with what it lists TIED to the program's text (the seventh form; the later family's looks); each row that meets fmt, with fmt's text TOLD by the authors' own Lean function (tested against real Go, not proved from fmt's source: count such statements apart). THE CARD IS WHAT COUNTS. Prove the row's statement (the work); the ties are given (YtgpjdbkdnojbhaaDoorTie.lean); close each card by the builder's one call (the guide's Derived/Test/ToyasCard.lean, 'card_holds'). Laid BY PROGRAM, IN A SANDBOX (cutbox-door.mjs). By AI agents, Wed Nov 11 2026. No macro, syntax, notation, axiom, sorry.
-/
import Derived.Test.YtgpjdbkdnojbhaaDoorRows
import GoSem.ClaimSeven
namespace Go.Proofs.YtgpjdbkdnojbhaaDoor
namespace Rows

/-- THE TIED CARD OF 'laws.FnExactHash'. -/
def fnExactHashCard : Claim7 := { stood := { row := fnExactHashRow, standIns := [], harness := (true, "2a15ce14ecf2ab67d16b263c6a0951af3d88c1d2cc4f3afe0555abafd605b276"), looks := false }, kinds := [], alts := [], laidByText := true, laidKinds := [.data, .data, .data], laidTests := true, laidLooks := .later }
def FnExactHashCardSaid : Prop := Claim7.holds Tryd.pinned (.plain (OpenSpec.ofChange fnExactHashSpec)) fnExactHashCard

/-- THE TIED CARD OF 'laws.FnExactMac'. -/
def fnExactMacCard : Claim7 := { stood := { row := fnExactMacRow, standIns := [], harness := (true, "2a15ce14ecf2ab67d16b263c6a0951af3d88c1d2cc4f3afe0555abafd605b276"), looks := false }, kinds := [], alts := [], laidByText := true, laidKinds := [.data, .data, .data], laidTests := true, laidLooks := .later }
def FnExactMacCardSaid : Prop := Claim7.holds Tryd.pinned (.plain (OpenSpec.ofChange fnExactMacSpec)) fnExactMacCard

/-- THE TIED CARD OF 'laws.FnExactHmac'. -/
def fnExactHmacCard : Claim7 := { stood := { row := fnExactHmacRow, standIns := [], harness := (true, "2a15ce14ecf2ab67d16b263c6a0951af3d88c1d2cc4f3afe0555abafd605b276"), looks := false }, kinds := [], alts := [], laidByText := true, laidKinds := [.data, .data, .data], laidTests := true, laidLooks := .later }
def FnExactHmacCardSaid : Prop := Claim7.holds Tryd.pinned (.plain (OpenSpec.ofChange fnExactHmacSpec)) fnExactHmacCard

/-- THE TIED CARD OF 'laws.FnExactKdf'. -/
def fnExactKdfCard : Claim7 := { stood := { row := fnExactKdfRow, standIns := [], harness := (true, "2a15ce14ecf2ab67d16b263c6a0951af3d88c1d2cc4f3afe0555abafd605b276"), looks := false }, kinds := [], alts := [], laidByText := true, laidKinds := [.data, .data, .data], laidTests := true, laidLooks := .later }
def FnExactKdfCardSaid : Prop := Claim7.holds Tryd.pinned (.plain (OpenSpec.ofChange fnExactKdfSpec)) fnExactKdfCard

/-- THE TIED CARD OF 'laws.FnHashing'. -/
def fnHashingCard : Claim7 := { stood := { row := fnHashingRow, standIns := [], harness := (true, "2a15ce14ecf2ab67d16b263c6a0951af3d88c1d2cc4f3afe0555abafd605b276"), looks := false }, kinds := [], alts := [], laidByText := true, laidKinds := [.data, .data, .data], laidTests := true, laidLooks := .later }
def FnHashingCardSaid : Prop := Claim7.holds Tryd.pinned (.plain (OpenSpec.ofChange fnHashingSpec)) fnHashingCard

/-- THE TIED CARD OF 'laws.FnExactCookieOf'. -/
def fnExactCookieOfCard : Claim7 := { stood := { row := fnExactCookieOfRow, standIns := [], harness := (true, "2a15ce14ecf2ab67d16b263c6a0951af3d88c1d2cc4f3afe0555abafd605b276"), looks := false }, kinds := [], alts := [], laidByText := true, laidKinds := [.data, .data, .data], laidTests := true, laidLooks := .later }
def FnExactCookieOfCardSaid : Prop := Claim7.holds Tryd.pinned (.plain (OpenSpec.ofChange fnExactCookieOfSpec)) fnExactCookieOfCard

/-- THE TIED CARD OF 'laws.FnExactStampMacs'. -/
def fnExactStampMacsCard : Claim7 := { stood := { row := fnExactStampMacsRow, standIns := [], harness := (true, "2a15ce14ecf2ab67d16b263c6a0951af3d88c1d2cc4f3afe0555abafd605b276"), looks := false }, kinds := [], alts := [], laidByText := true, laidKinds := [.data, .data, .data], laidTests := true, laidLooks := .later }
def FnExactStampMacsCardSaid : Prop := Claim7.holds Tryd.pinned (.plain (OpenSpec.ofChange fnExactStampMacsSpec)) fnExactStampMacsCard

/-- THE TIED CARD OF 'laws.FnExactCheckMacs'. -/
def fnExactCheckMacsCard : Claim7 := { stood := { row := fnExactCheckMacsRow, standIns := [], harness := (true, "2a15ce14ecf2ab67d16b263c6a0951af3d88c1d2cc4f3afe0555abafd605b276"), looks := false }, kinds := [], alts := [], laidByText := true, laidKinds := [.data, .data, .data], laidTests := true, laidLooks := .later }
def FnExactCheckMacsCardSaid : Prop := Claim7.holds Tryd.pinned (.plain (OpenSpec.ofChange fnExactCheckMacsSpec)) fnExactCheckMacsCard

/-- THE SECOND FORM's CARD OF 'laws.FnExactHash'. -/
def fnExactHashUptoCard : Claim7 := { stood := { row := fnExactHashUptoRow, standIns := [], harness := (true, "2a15ce14ecf2ab67d16b263c6a0951af3d88c1d2cc4f3afe0555abafd605b276"), looks := false }, kinds := [], alts := [], laidByText := true, laidKinds := [.data, .data, .data], laidTests := true, laidLooks := .later }
def FnExactHashUptoCardSaid : Prop := Claim7.holds Tryd.pinned (.plain (OpenSpec.upto fnExactHashSpec)) fnExactHashUptoCard

/-- THE SECOND FORM's CARD OF 'laws.FnExactMac'. -/
def fnExactMacUptoCard : Claim7 := { stood := { row := fnExactMacUptoRow, standIns := [], harness := (true, "2a15ce14ecf2ab67d16b263c6a0951af3d88c1d2cc4f3afe0555abafd605b276"), looks := false }, kinds := [], alts := [], laidByText := true, laidKinds := [.data, .data, .data], laidTests := true, laidLooks := .later }
def FnExactMacUptoCardSaid : Prop := Claim7.holds Tryd.pinned (.plain (OpenSpec.upto fnExactMacSpec)) fnExactMacUptoCard

/-- THE SECOND FORM's CARD OF 'laws.FnExactHmac'. -/
def fnExactHmacUptoCard : Claim7 := { stood := { row := fnExactHmacUptoRow, standIns := [], harness := (true, "2a15ce14ecf2ab67d16b263c6a0951af3d88c1d2cc4f3afe0555abafd605b276"), looks := false }, kinds := [], alts := [], laidByText := true, laidKinds := [.data, .data, .data], laidTests := true, laidLooks := .later }
def FnExactHmacUptoCardSaid : Prop := Claim7.holds Tryd.pinned (.plain (OpenSpec.upto fnExactHmacSpec)) fnExactHmacUptoCard

/-- THE SECOND FORM's CARD OF 'laws.FnExactKdf'. -/
def fnExactKdfUptoCard : Claim7 := { stood := { row := fnExactKdfUptoRow, standIns := [], harness := (true, "2a15ce14ecf2ab67d16b263c6a0951af3d88c1d2cc4f3afe0555abafd605b276"), looks := false }, kinds := [], alts := [], laidByText := true, laidKinds := [.data, .data, .data], laidTests := true, laidLooks := .later }
def FnExactKdfUptoCardSaid : Prop := Claim7.holds Tryd.pinned (.plain (OpenSpec.upto fnExactKdfSpec)) fnExactKdfUptoCard

/-- THE SECOND FORM's CARD OF 'laws.FnHashing'. -/
def fnHashingUptoCard : Claim7 := { stood := { row := fnHashingUptoRow, standIns := [], harness := (true, "2a15ce14ecf2ab67d16b263c6a0951af3d88c1d2cc4f3afe0555abafd605b276"), looks := false }, kinds := [], alts := [], laidByText := true, laidKinds := [.data, .data, .data], laidTests := true, laidLooks := .later }
def FnHashingUptoCardSaid : Prop := Claim7.holds Tryd.pinned (.plain (OpenSpec.upto fnHashingSpec)) fnHashingUptoCard

/-- THE SECOND FORM's CARD OF 'laws.FnExactCookieOf'. -/
def fnExactCookieOfUptoCard : Claim7 := { stood := { row := fnExactCookieOfUptoRow, standIns := [], harness := (true, "2a15ce14ecf2ab67d16b263c6a0951af3d88c1d2cc4f3afe0555abafd605b276"), looks := false }, kinds := [], alts := [], laidByText := true, laidKinds := [.data, .data, .data], laidTests := true, laidLooks := .later }
def FnExactCookieOfUptoCardSaid : Prop := Claim7.holds Tryd.pinned (.plain (OpenSpec.upto fnExactCookieOfSpec)) fnExactCookieOfUptoCard

/-- THE SECOND FORM's CARD OF 'laws.FnExactStampMacs'. -/
def fnExactStampMacsUptoCard : Claim7 := { stood := { row := fnExactStampMacsUptoRow, standIns := [], harness := (true, "2a15ce14ecf2ab67d16b263c6a0951af3d88c1d2cc4f3afe0555abafd605b276"), looks := false }, kinds := [], alts := [], laidByText := true, laidKinds := [.data, .data, .data], laidTests := true, laidLooks := .later }
def FnExactStampMacsUptoCardSaid : Prop := Claim7.holds Tryd.pinned (.plain (OpenSpec.upto fnExactStampMacsSpec)) fnExactStampMacsUptoCard

/-- THE SECOND FORM's CARD OF 'laws.FnExactCheckMacs'. -/
def fnExactCheckMacsUptoCard : Claim7 := { stood := { row := fnExactCheckMacsUptoRow, standIns := [], harness := (true, "2a15ce14ecf2ab67d16b263c6a0951af3d88c1d2cc4f3afe0555abafd605b276"), looks := false }, kinds := [], alts := [], laidByText := true, laidKinds := [.data, .data, .data], laidTests := true, laidLooks := .later }
def FnExactCheckMacsUptoCardSaid : Prop := Claim7.holds Tryd.pinned (.plain (OpenSpec.upto fnExactCheckMacsSpec)) fnExactCheckMacsUptoCard
end Rows
end Go.Proofs.YtgpjdbkdnojbhaaDoor
