/-
  DERIVED. GIVEN WITH THE SEED: THE CARDS: each row of YthnokkcpmikajaaDoorRows.lean that lists a variable, with what it lists TIED to the program's text (the seventh form; the later family's looks); each row that meets fmt, with fmt's text TOLD by the authors' own Lean function (tested against real Go, not proved from fmt's source: count such statements apart). THE CARD IS WHAT COUNTS. Prove the row's statement (the work); the ties are given (YthnokkcpmikajaaDoorTie.lean); close each card by the builder's one call (the guide's Derived/Test/ToyasCard.lean, 'card_holds'). Laid BY PROGRAM, IN A SANDBOX (cutbox-door.mjs). By AI agents, Wed Nov 11 2026. No macro, syntax, notation, axiom, sorry.
-/
import Derived.Test.YthnokkcpmikajaaDoorRows
import GoSem.ClaimSeven
namespace Go.Proofs.YthnokkcpmikajaaDoor
namespace Rows

/-- THE TIED CARD OF 'plaitlaw10.JoinLays'. -/
def joinLaysCard : Claim7 := { stood := { row := joinLaysRow, standIns := [], harness := (true, "3af73881cf0b4c402efe936162302feb88accdb97d3cad18bf0889eba8f6605b"), looks := false }, kinds := [], alts := [], laidByText := true, laidKinds := [.data], laidTests := true, laidLooks := .later }
def JoinLaysCardSaid : Prop := Claim7.holds Tryd.pinned (.plain (OpenSpec.ofChange joinLaysSpec)) joinLaysCard

/-- THE TIED CARD OF 'plaitlaw10.JoinReads'. -/
def joinReadsCard : Claim7 := { stood := { row := joinReadsRow, standIns := [], harness := (true, "3af73881cf0b4c402efe936162302feb88accdb97d3cad18bf0889eba8f6605b"), looks := false }, kinds := [], alts := [], laidByText := true, laidKinds := [.data], laidTests := true, laidLooks := .later }
def JoinReadsCardSaid : Prop := Claim7.holds Tryd.pinned (.plain (OpenSpec.ofChange joinReadsSpec)) joinReadsCard

/-- THE TIED CARD OF 'plaitlaw10.JoinBack'. -/
def joinBackCard : Claim7 := { stood := { row := joinBackRow, standIns := [], harness := (true, "3af73881cf0b4c402efe936162302feb88accdb97d3cad18bf0889eba8f6605b"), looks := false }, kinds := [], alts := [], laidByText := true, laidKinds := [.data], laidTests := true, laidLooks := .later }
def JoinBackCardSaid : Prop := Claim7.holds Tryd.pinned (.plain (OpenSpec.ofChange joinBackSpec)) joinBackCard

/-- THE TIED CARD OF 'plaitlaw10.JoinPasses'. -/
def joinPassesCard : Claim7 := { stood := { row := joinPassesRow, standIns := [], harness := (true, "3af73881cf0b4c402efe936162302feb88accdb97d3cad18bf0889eba8f6605b"), looks := false }, kinds := [], alts := [], laidByText := true, laidKinds := [.data], laidTests := true, laidLooks := .later }
def JoinPassesCardSaid : Prop := Claim7.holds Tryd.pinned (.plain (OpenSpec.ofChange joinPassesSpec)) joinPassesCard

/-- THE TIED CARD OF 'plaitlaw10.JoinCut'. -/
def joinCutCard : Claim7 := { stood := { row := joinCutRow, standIns := [], harness := (true, "3af73881cf0b4c402efe936162302feb88accdb97d3cad18bf0889eba8f6605b"), looks := false }, kinds := [], alts := [], laidByText := true, laidKinds := [.data], laidTests := true, laidLooks := .later }
def JoinCutCardSaid : Prop := Claim7.holds Tryd.pinned (.plain (OpenSpec.ofChange joinCutSpec)) joinCutCard

/-- THE TIED CARD OF 'plaitlaw10.JoinKnown'. -/
def joinKnownCard : Claim7 := { stood := { row := joinKnownRow, standIns := [], harness := (true, "3af73881cf0b4c402efe936162302feb88accdb97d3cad18bf0889eba8f6605b"), looks := false }, kinds := [], alts := [], laidByText := true, laidKinds := [.data], laidTests := true, laidLooks := .later }
def JoinKnownCardSaid : Prop := Claim7.holds Tryd.pinned (.plain (OpenSpec.ofChange joinKnownSpec)) joinKnownCard

/-- THE SECOND FORM's CARD OF 'plaitlaw10.JoinLays'. -/
def joinLaysUptoCard : Claim7 := { stood := { row := joinLaysUptoRow, standIns := [], harness := (true, "3af73881cf0b4c402efe936162302feb88accdb97d3cad18bf0889eba8f6605b"), looks := false }, kinds := [], alts := [], laidByText := true, laidKinds := [.data], laidTests := true, laidLooks := .later }
def JoinLaysUptoCardSaid : Prop := Claim7.holds Tryd.pinned (.plain (OpenSpec.upto joinLaysSpec)) joinLaysUptoCard

/-- THE SECOND FORM's CARD OF 'plaitlaw10.JoinReads'. -/
def joinReadsUptoCard : Claim7 := { stood := { row := joinReadsUptoRow, standIns := [], harness := (true, "3af73881cf0b4c402efe936162302feb88accdb97d3cad18bf0889eba8f6605b"), looks := false }, kinds := [], alts := [], laidByText := true, laidKinds := [.data], laidTests := true, laidLooks := .later }
def JoinReadsUptoCardSaid : Prop := Claim7.holds Tryd.pinned (.plain (OpenSpec.upto joinReadsSpec)) joinReadsUptoCard

/-- THE SECOND FORM's CARD OF 'plaitlaw10.JoinBack'. -/
def joinBackUptoCard : Claim7 := { stood := { row := joinBackUptoRow, standIns := [], harness := (true, "3af73881cf0b4c402efe936162302feb88accdb97d3cad18bf0889eba8f6605b"), looks := false }, kinds := [], alts := [], laidByText := true, laidKinds := [.data], laidTests := true, laidLooks := .later }
def JoinBackUptoCardSaid : Prop := Claim7.holds Tryd.pinned (.plain (OpenSpec.upto joinBackSpec)) joinBackUptoCard

/-- THE SECOND FORM's CARD OF 'plaitlaw10.JoinPasses'. -/
def joinPassesUptoCard : Claim7 := { stood := { row := joinPassesUptoRow, standIns := [], harness := (true, "3af73881cf0b4c402efe936162302feb88accdb97d3cad18bf0889eba8f6605b"), looks := false }, kinds := [], alts := [], laidByText := true, laidKinds := [.data], laidTests := true, laidLooks := .later }
def JoinPassesUptoCardSaid : Prop := Claim7.holds Tryd.pinned (.plain (OpenSpec.upto joinPassesSpec)) joinPassesUptoCard

/-- THE SECOND FORM's CARD OF 'plaitlaw10.JoinCut'. -/
def joinCutUptoCard : Claim7 := { stood := { row := joinCutUptoRow, standIns := [], harness := (true, "3af73881cf0b4c402efe936162302feb88accdb97d3cad18bf0889eba8f6605b"), looks := false }, kinds := [], alts := [], laidByText := true, laidKinds := [.data], laidTests := true, laidLooks := .later }
def JoinCutUptoCardSaid : Prop := Claim7.holds Tryd.pinned (.plain (OpenSpec.upto joinCutSpec)) joinCutUptoCard

/-- THE SECOND FORM's CARD OF 'plaitlaw10.JoinKnown'. -/
def joinKnownUptoCard : Claim7 := { stood := { row := joinKnownUptoRow, standIns := [], harness := (true, "3af73881cf0b4c402efe936162302feb88accdb97d3cad18bf0889eba8f6605b"), looks := false }, kinds := [], alts := [], laidByText := true, laidKinds := [.data], laidTests := true, laidLooks := .later }
def JoinKnownUptoCardSaid : Prop := Claim7.holds Tryd.pinned (.plain (OpenSpec.upto joinKnownSpec)) joinKnownUptoCard
end Rows
end Go.Proofs.YthnokkcpmikajaaDoor
