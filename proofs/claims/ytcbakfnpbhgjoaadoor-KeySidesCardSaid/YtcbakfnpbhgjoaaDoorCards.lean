/-
  DERIVED. GIVEN WITH THE SEED: THE CARDS: each row of YtcbakfnpbhgjoaaDoorRows.lean that lists a variable, with what it lists TIED to the program's text (the seventh form; the later family's looks); each row that meets fmt, with fmt's text TOLD by the authors' own Lean function (tested against real Go, not proved from fmt's source: count such statements apart). THE CARD IS WHAT COUNTS. Prove the row's statement (the work); the ties are given (YtcbakfnpbhgjoaaDoorTie.lean); close each card by the builder's one call (the guide's Derived/Test/ToyasCard.lean, 'card_holds'). Laid BY PROGRAM, IN A SANDBOX (cutbox-door.mjs). By AI agents, Wed Nov 11 2026. No macro, syntax, notation, axiom, sorry.
-/
import Derived.Test.YtcbakfnpbhgjoaaDoorRows
import GoSem.ClaimSeven
namespace Go.Proofs.YtcbakfnpbhgjoaaDoor
namespace Rows

/-- THE TIED CARD OF 'plaitlaw08.KeyTells'. -/
def keyTellsCard : Claim7 := { stood := { row := keyTellsRow, standIns := [], harness := (true, "9dd14a20960d326d09f6010a505e5e14bf54a8df32bc22c2ddca65244e25a837"), looks := false }, kinds := [], alts := [], laidByText := true, laidKinds := [.data, .data], laidTests := true, laidLooks := .later }
def KeyTellsCardSaid : Prop := Claim7.holds Tryd.pinned (.plain (OpenSpec.ofChange keyTellsSpec)) keyTellsCard

/-- THE TIED CARD OF 'plaitlaw08.KeyMacs'. -/
def keyMacsCard : Claim7 := { stood := { row := keyMacsRow, standIns := [], harness := (true, "9dd14a20960d326d09f6010a505e5e14bf54a8df32bc22c2ddca65244e25a837"), looks := false }, kinds := [], alts := [], laidByText := true, laidKinds := [.data, .data], laidTests := true, laidLooks := .later }
def KeyMacsCardSaid : Prop := Claim7.holds Tryd.pinned (.plain (OpenSpec.ofChange keyMacsSpec)) keyMacsCard

/-- THE TIED CARD OF 'plaitlaw08.KeyAddresses'. -/
def keyAddressesCard : Claim7 := { stood := { row := keyAddressesRow, standIns := [], harness := (true, "9dd14a20960d326d09f6010a505e5e14bf54a8df32bc22c2ddca65244e25a837"), looks := false }, kinds := [], alts := [], laidByText := true, laidKinds := [.data, .data], laidTests := true, laidLooks := .later }
def KeyAddressesCardSaid : Prop := Claim7.holds Tryd.pinned (.plain (OpenSpec.ofChange keyAddressesSpec)) keyAddressesCard

/-- THE TIED CARD OF 'plaitlaw08.KeyParts'. -/
def keyPartsCard : Claim7 := { stood := { row := keyPartsRow, standIns := [], harness := (true, "9dd14a20960d326d09f6010a505e5e14bf54a8df32bc22c2ddca65244e25a837"), looks := false }, kinds := [], alts := [], laidByText := true, laidKinds := [.data, .data], laidTests := true, laidLooks := .later }
def KeyPartsCardSaid : Prop := Claim7.holds Tryd.pinned (.plain (OpenSpec.ofChange keyPartsSpec)) keyPartsCard

/-- THE TIED CARD OF 'plaitlaw08.KeyFields'. -/
def keyFieldsCard : Claim7 := { stood := { row := keyFieldsRow, standIns := [], harness := (true, "9dd14a20960d326d09f6010a505e5e14bf54a8df32bc22c2ddca65244e25a837"), looks := false }, kinds := [], alts := [], laidByText := true, laidKinds := [.data, .data], laidTests := true, laidLooks := .later }
def KeyFieldsCardSaid : Prop := Claim7.holds Tryd.pinned (.plain (OpenSpec.ofChange keyFieldsSpec)) keyFieldsCard

/-- THE TIED CARD OF 'plaitlaw08.KeySides'. -/
def keySidesCard : Claim7 := { stood := { row := keySidesRow, standIns := [], harness := (true, "9dd14a20960d326d09f6010a505e5e14bf54a8df32bc22c2ddca65244e25a837"), looks := false }, kinds := [], alts := [], laidByText := true, laidKinds := [.data, .data], laidTests := true, laidLooks := .later }
def KeySidesCardSaid : Prop := Claim7.holds Tryd.pinned (.plain (OpenSpec.ofChange keySidesSpec)) keySidesCard

/-- THE TIED CARD OF 'plaitlaw08.KeyKnown'. -/
def keyKnownCard : Claim7 := { stood := { row := keyKnownRow, standIns := [], harness := (true, "9dd14a20960d326d09f6010a505e5e14bf54a8df32bc22c2ddca65244e25a837"), looks := false }, kinds := [], alts := [], laidByText := true, laidKinds := [.data, .data], laidTests := true, laidLooks := .later }
def KeyKnownCardSaid : Prop := Claim7.holds Tryd.pinned (.plain (OpenSpec.ofChange keyKnownSpec)) keyKnownCard

/-- THE SECOND FORM's CARD OF 'plaitlaw08.KeyTells'. -/
def keyTellsUptoCard : Claim7 := { stood := { row := keyTellsUptoRow, standIns := [], harness := (true, "9dd14a20960d326d09f6010a505e5e14bf54a8df32bc22c2ddca65244e25a837"), looks := false }, kinds := [], alts := [], laidByText := true, laidKinds := [.data, .data], laidTests := true, laidLooks := .later }
def KeyTellsUptoCardSaid : Prop := Claim7.holds Tryd.pinned (.plain (OpenSpec.upto keyTellsSpec)) keyTellsUptoCard

/-- THE SECOND FORM's CARD OF 'plaitlaw08.KeyMacs'. -/
def keyMacsUptoCard : Claim7 := { stood := { row := keyMacsUptoRow, standIns := [], harness := (true, "9dd14a20960d326d09f6010a505e5e14bf54a8df32bc22c2ddca65244e25a837"), looks := false }, kinds := [], alts := [], laidByText := true, laidKinds := [.data, .data], laidTests := true, laidLooks := .later }
def KeyMacsUptoCardSaid : Prop := Claim7.holds Tryd.pinned (.plain (OpenSpec.upto keyMacsSpec)) keyMacsUptoCard

/-- THE SECOND FORM's CARD OF 'plaitlaw08.KeyAddresses'. -/
def keyAddressesUptoCard : Claim7 := { stood := { row := keyAddressesUptoRow, standIns := [], harness := (true, "9dd14a20960d326d09f6010a505e5e14bf54a8df32bc22c2ddca65244e25a837"), looks := false }, kinds := [], alts := [], laidByText := true, laidKinds := [.data, .data], laidTests := true, laidLooks := .later }
def KeyAddressesUptoCardSaid : Prop := Claim7.holds Tryd.pinned (.plain (OpenSpec.upto keyAddressesSpec)) keyAddressesUptoCard

/-- THE SECOND FORM's CARD OF 'plaitlaw08.KeyParts'. -/
def keyPartsUptoCard : Claim7 := { stood := { row := keyPartsUptoRow, standIns := [], harness := (true, "9dd14a20960d326d09f6010a505e5e14bf54a8df32bc22c2ddca65244e25a837"), looks := false }, kinds := [], alts := [], laidByText := true, laidKinds := [.data, .data], laidTests := true, laidLooks := .later }
def KeyPartsUptoCardSaid : Prop := Claim7.holds Tryd.pinned (.plain (OpenSpec.upto keyPartsSpec)) keyPartsUptoCard

/-- THE SECOND FORM's CARD OF 'plaitlaw08.KeyFields'. -/
def keyFieldsUptoCard : Claim7 := { stood := { row := keyFieldsUptoRow, standIns := [], harness := (true, "9dd14a20960d326d09f6010a505e5e14bf54a8df32bc22c2ddca65244e25a837"), looks := false }, kinds := [], alts := [], laidByText := true, laidKinds := [.data, .data], laidTests := true, laidLooks := .later }
def KeyFieldsUptoCardSaid : Prop := Claim7.holds Tryd.pinned (.plain (OpenSpec.upto keyFieldsSpec)) keyFieldsUptoCard

/-- THE SECOND FORM's CARD OF 'plaitlaw08.KeySides'. -/
def keySidesUptoCard : Claim7 := { stood := { row := keySidesUptoRow, standIns := [], harness := (true, "9dd14a20960d326d09f6010a505e5e14bf54a8df32bc22c2ddca65244e25a837"), looks := false }, kinds := [], alts := [], laidByText := true, laidKinds := [.data, .data], laidTests := true, laidLooks := .later }
def KeySidesUptoCardSaid : Prop := Claim7.holds Tryd.pinned (.plain (OpenSpec.upto keySidesSpec)) keySidesUptoCard

/-- THE SECOND FORM's CARD OF 'plaitlaw08.KeyKnown'. -/
def keyKnownUptoCard : Claim7 := { stood := { row := keyKnownUptoRow, standIns := [], harness := (true, "9dd14a20960d326d09f6010a505e5e14bf54a8df32bc22c2ddca65244e25a837"), looks := false }, kinds := [], alts := [], laidByText := true, laidKinds := [.data, .data], laidTests := true, laidLooks := .later }
def KeyKnownUptoCardSaid : Prop := Claim7.holds Tryd.pinned (.plain (OpenSpec.upto keyKnownSpec)) keyKnownUptoCard
end Rows
end Go.Proofs.YtcbakfnpbhgjoaaDoor
