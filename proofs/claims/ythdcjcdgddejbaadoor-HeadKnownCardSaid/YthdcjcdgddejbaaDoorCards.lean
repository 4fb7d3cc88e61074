/-
  DERIVED. GIVEN WITH THE SEED: THE CARDS: each row of YthdcjcdgddejbaaDoorRows.lean that lists a variable, with what it lists TIED to the program's text (the seventh form; the later family's looks); each row that meets fmt, with fmt's text TOLD by the authors' own Lean function (tested against real Go, not proved from fmt's source: count such statements apart). THE CARD IS WHAT COUNTS. Prove the row's statement (the work); the ties are given (YthdcjcdgddejbaaDoorTie.lean); close each card by the builder's one call (the guide's Derived/Test/ToyasCard.lean, 'card_holds'). Laid BY PROGRAM, IN A SANDBOX (cutbox-door.mjs). By AI agents, Wed Nov 11 2026. No macro, syntax, notation, axiom, sorry.
-/
import Derived.Test.YthdcjcdgddejbaaDoorRows
import GoSem.ClaimSeven
namespace Go.Proofs.YthdcjcdgddejbaaDoor
namespace Rows

/-- THE TIED CARD OF 'plaitlaw05.HeadLays'. -/
def headLaysCard : Claim7 := { stood := { row := headLaysRow, standIns := [], harness := (true, "1f111c8be5e5ee5a4aa5c1c682a16e8060ffb192e6b42f7b13790bd3ab30bac6"), looks := false }, kinds := [], alts := [], laidByText := true, laidKinds := [.data], laidTests := true, laidLooks := .later }
def HeadLaysCardSaid : Prop := Claim7.holds Tryd.pinned (.plain (OpenSpec.ofChange headLaysSpec)) headLaysCard

/-- THE TIED CARD OF 'plaitlaw05.HeadTells'. -/
def headTellsCard : Claim7 := { stood := { row := headTellsRow, standIns := [], harness := (true, "1f111c8be5e5ee5a4aa5c1c682a16e8060ffb192e6b42f7b13790bd3ab30bac6"), looks := false }, kinds := [], alts := [], laidByText := true, laidKinds := [.data], laidTests := true, laidLooks := .later }
def HeadTellsCardSaid : Prop := Claim7.holds Tryd.pinned (.plain (OpenSpec.ofChange headTellsSpec)) headTellsCard

/-- THE TIED CARD OF 'plaitlaw05.HeadBack'. -/
def headBackCard : Claim7 := { stood := { row := headBackRow, standIns := [], harness := (true, "1f111c8be5e5ee5a4aa5c1c682a16e8060ffb192e6b42f7b13790bd3ab30bac6"), looks := false }, kinds := [], alts := [], laidByText := true, laidKinds := [.data], laidTests := true, laidLooks := .later }
def HeadBackCardSaid : Prop := Claim7.holds Tryd.pinned (.plain (OpenSpec.ofChange headBackSpec)) headBackCard

/-- THE TIED CARD OF 'plaitlaw05.HeadByte'. -/
def headByteCard : Claim7 := { stood := { row := headByteRow, standIns := [], harness := (true, "1f111c8be5e5ee5a4aa5c1c682a16e8060ffb192e6b42f7b13790bd3ab30bac6"), looks := false }, kinds := [], alts := [], laidByText := true, laidKinds := [.data], laidTests := true, laidLooks := .later }
def HeadByteCardSaid : Prop := Claim7.holds Tryd.pinned (.plain (OpenSpec.ofChange headByteSpec)) headByteCard

/-- THE TIED CARD OF 'plaitlaw05.HeadKnown'. -/
def headKnownCard : Claim7 := { stood := { row := headKnownRow, standIns := [], harness := (true, "1f111c8be5e5ee5a4aa5c1c682a16e8060ffb192e6b42f7b13790bd3ab30bac6"), looks := false }, kinds := [], alts := [], laidByText := true, laidKinds := [.data], laidTests := true, laidLooks := .later }
def HeadKnownCardSaid : Prop := Claim7.holds Tryd.pinned (.plain (OpenSpec.ofChange headKnownSpec)) headKnownCard

/-- THE SECOND FORM's CARD OF 'plaitlaw05.HeadLays'. -/
def headLaysUptoCard : Claim7 := { stood := { row := headLaysUptoRow, standIns := [], harness := (true, "1f111c8be5e5ee5a4aa5c1c682a16e8060ffb192e6b42f7b13790bd3ab30bac6"), looks := false }, kinds := [], alts := [], laidByText := true, laidKinds := [.data], laidTests := true, laidLooks := .later }
def HeadLaysUptoCardSaid : Prop := Claim7.holds Tryd.pinned (.plain (OpenSpec.upto headLaysSpec)) headLaysUptoCard

/-- THE SECOND FORM's CARD OF 'plaitlaw05.HeadTells'. -/
def headTellsUptoCard : Claim7 := { stood := { row := headTellsUptoRow, standIns := [], harness := (true, "1f111c8be5e5ee5a4aa5c1c682a16e8060ffb192e6b42f7b13790bd3ab30bac6"), looks := false }, kinds := [], alts := [], laidByText := true, laidKinds := [.data], laidTests := true, laidLooks := .later }
def HeadTellsUptoCardSaid : Prop := Claim7.holds Tryd.pinned (.plain (OpenSpec.upto headTellsSpec)) headTellsUptoCard

/-- THE SECOND FORM's CARD OF 'plaitlaw05.HeadBack'. -/
def headBackUptoCard : Claim7 := { stood := { row := headBackUptoRow, standIns := [], harness := (true, "1f111c8be5e5ee5a4aa5c1c682a16e8060ffb192e6b42f7b13790bd3ab30bac6"), looks := false }, kinds := [], alts := [], laidByText := true, laidKinds := [.data], laidTests := true, laidLooks := .later }
def HeadBackUptoCardSaid : Prop := Claim7.holds Tryd.pinned (.plain (OpenSpec.upto headBackSpec)) headBackUptoCard

/-- THE SECOND FORM's CARD OF 'plaitlaw05.HeadByte'. -/
def headByteUptoCard : Claim7 := { stood := { row := headByteUptoRow, standIns := [], harness := (true, "1f111c8be5e5ee5a4aa5c1c682a16e8060ffb192e6b42f7b13790bd3ab30bac6"), looks := false }, kinds := [], alts := [], laidByText := true, laidKinds := [.data], laidTests := true, laidLooks := .later }
def HeadByteUptoCardSaid : Prop := Claim7.holds Tryd.pinned (.plain (OpenSpec.upto headByteSpec)) headByteUptoCard

/-- THE SECOND FORM's CARD OF 'plaitlaw05.HeadKnown'. -/
def headKnownUptoCard : Claim7 := { stood := { row := headKnownUptoRow, standIns := [], harness := (true, "1f111c8be5e5ee5a4aa5c1c682a16e8060ffb192e6b42f7b13790bd3ab30bac6"), looks := false }, kinds := [], alts := [], laidByText := true, laidKinds := [.data], laidTests := true, laidLooks := .later }
def HeadKnownUptoCardSaid : Prop := Claim7.holds Tryd.pinned (.plain (OpenSpec.upto headKnownSpec)) headKnownUptoCard
end Rows
end Go.Proofs.YthdcjcdgddejbaaDoor
