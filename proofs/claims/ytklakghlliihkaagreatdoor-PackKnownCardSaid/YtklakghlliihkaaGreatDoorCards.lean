/-
  DERIVED. GIVEN WITH THE SEED: THE CARDS: each row of YtklakghlliihkaaGreatDoorRows.lean that lists a variable, with what it lists TIED to the program's text (the seventh form; the later family's looks); each row that meets fmt, with fmt's text TOLD by the authors' own Lean function (tested against real Go, not proved from fmt's source: count such statements apart). THE CARD IS WHAT COUNTS. Prove the row's statement (the work); the ties are given (YtklakghlliihkaaGreatDoorTie.lean); close each card by the builder's one call (the guide's Derived/Test/ToyasCard.lean, 'card_holds'). Laid BY PROGRAM, IN A SANDBOX (cutbox-door.mjs). By AI agents, Wed Nov 11 2026. No macro, syntax, notation, axiom, sorry.
-/
import Derived.Test.YtklakghlliihkaaGreatDoorRows
import GoSem.ClaimSeven
namespace Go.Proofs.YtklakghlliihkaaGreatDoor
namespace Rows

/-- THE TIED CARD OF 'plaitlaw14.OptAreas'. -/
def optAreasCard : Claim7 := { stood := { row := optAreasRow, standIns := [], harness := (true, "a05e052b1a6debd9623344171d36e631794c29c665233cfa916ec942a9da9a34"), looks := true }, kinds := [], alts := [], laidByText := true, laidKinds := [.handle, .data], laidTests := true, laidLooks := .later }
def OptAreasCardSaid : Prop := Claim7.holds Tryz.pinned (.plain (OpenSpec.ofChange optAreasSpec)) optAreasCard

/-- THE TIED CARD OF 'plaitlaw15.PackTells'. -/
def packTellsCard : Claim7 := { stood := { row := packTellsRow, standIns := [], harness := (true, "a05e052b1a6debd9623344171d36e631794c29c665233cfa916ec942a9da9a34"), looks := true }, kinds := [], alts := [], laidByText := true, laidKinds := [.handle, .data], laidTests := true, laidLooks := .later }
def PackTellsCardSaid : Prop := Claim7.holds Tryz.pinned (.plain (OpenSpec.ofChange packTellsSpec)) packTellsCard

/-- THE TIED CARD OF 'plaitlaw15.PackFits'. -/
def packFitsCard : Claim7 := { stood := { row := packFitsRow, standIns := [], harness := (true, "a05e052b1a6debd9623344171d36e631794c29c665233cfa916ec942a9da9a34"), looks := true }, kinds := [], alts := [], laidByText := true, laidKinds := [.handle, .data], laidTests := true, laidLooks := .later }
def PackFitsCardSaid : Prop := Claim7.holds Tryz.pinned (.plain (OpenSpec.ofChange packFitsSpec)) packFitsCard

/-- THE TIED CARD OF 'plaitlaw15.PackMost'. -/
def packMostCard : Claim7 := { stood := { row := packMostRow, standIns := [], harness := (true, "a05e052b1a6debd9623344171d36e631794c29c665233cfa916ec942a9da9a34"), looks := true }, kinds := [], alts := [], laidByText := true, laidKinds := [.handle, .data], laidTests := true, laidLooks := .later }
def PackMostCardSaid : Prop := Claim7.holds Tryz.pinned (.plain (OpenSpec.ofChange packMostSpec)) packMostCard

/-- THE TIED CARD OF 'plaitlaw15.PackKnown'. -/
def packKnownCard : Claim7 := { stood := { row := packKnownRow, standIns := [], harness := (true, "a05e052b1a6debd9623344171d36e631794c29c665233cfa916ec942a9da9a34"), looks := true }, kinds := [], alts := [], laidByText := true, laidKinds := [.handle, .data], laidTests := true, laidLooks := .later }
def PackKnownCardSaid : Prop := Claim7.holds Tryz.pinned (.plain (OpenSpec.ofChange packKnownSpec)) packKnownCard

/-- THE SECOND FORM's CARD OF 'plaitlaw14.OptAreas'. -/
def optAreasUptoCard : Claim7 := { stood := { row := optAreasUptoRow, standIns := [], harness := (true, "a05e052b1a6debd9623344171d36e631794c29c665233cfa916ec942a9da9a34"), looks := true }, kinds := [], alts := [], laidByText := true, laidKinds := [.handle, .data], laidTests := true, laidLooks := .later }
def OptAreasUptoCardSaid : Prop := Claim7.holds Tryz.pinned (.plain (OpenSpec.upto optAreasSpec)) optAreasUptoCard

/-- THE SECOND FORM's CARD OF 'plaitlaw15.PackTells'. -/
def packTellsUptoCard : Claim7 := { stood := { row := packTellsUptoRow, standIns := [], harness := (true, "a05e052b1a6debd9623344171d36e631794c29c665233cfa916ec942a9da9a34"), looks := true }, kinds := [], alts := [], laidByText := true, laidKinds := [.handle, .data], laidTests := true, laidLooks := .later }
def PackTellsUptoCardSaid : Prop := Claim7.holds Tryz.pinned (.plain (OpenSpec.upto packTellsSpec)) packTellsUptoCard

/-- THE SECOND FORM's CARD OF 'plaitlaw15.PackFits'. -/
def packFitsUptoCard : Claim7 := { stood := { row := packFitsUptoRow, standIns := [], harness := (true, "a05e052b1a6debd9623344171d36e631794c29c665233cfa916ec942a9da9a34"), looks := true }, kinds := [], alts := [], laidByText := true, laidKinds := [.handle, .data], laidTests := true, laidLooks := .later }
def PackFitsUptoCardSaid : Prop := Claim7.holds Tryz.pinned (.plain (OpenSpec.upto packFitsSpec)) packFitsUptoCard

/-- THE SECOND FORM's CARD OF 'plaitlaw15.PackMost'. -/
def packMostUptoCard : Claim7 := { stood := { row := packMostUptoRow, standIns := [], harness := (true, "a05e052b1a6debd9623344171d36e631794c29c665233cfa916ec942a9da9a34"), looks := true }, kinds := [], alts := [], laidByText := true, laidKinds := [.handle, .data], laidTests := true, laidLooks := .later }
def PackMostUptoCardSaid : Prop := Claim7.holds Tryz.pinned (.plain (OpenSpec.upto packMostSpec)) packMostUptoCard

/-- THE SECOND FORM's CARD OF 'plaitlaw15.PackKnown'. -/
def packKnownUptoCard : Claim7 := { stood := { row := packKnownUptoRow, standIns := [], harness := (true, "a05e052b1a6debd9623344171d36e631794c29c665233cfa916ec942a9da9a34"), looks := true }, kinds := [], alts := [], laidByText := true, laidKinds := [.handle, .data], laidTests := true, laidLooks := .later }
def PackKnownUptoCardSaid : Prop := Claim7.holds Tryz.pinned (.plain (OpenSpec.upto packKnownSpec)) packKnownUptoCard
end Rows
end Go.Proofs.YtklakghlliihkaaGreatDoor
