/-
  DERIVED. GIVEN WITH THE SEED: THE CARDS: each row of YtnlhhjhidkjlbaaGreatDoorRows.lean that lists a variable, with what it lists TIED to the program's text (the seventh form; the later family's looks); each row that meets fmt, with fmt's text TOLD by the authors' own Lean function (tested against real Go, not proved from fmt's source: count such statements apart). THE CARD IS WHAT COUNTS. Prove the row's statement (the work); the ties are given (YtnlhhjhidkjlbaaGreatDoorTie.lean); close each card by the builder's one call (the guide's Derived/Test/ToyasCard.lean, 'card_holds'). Laid BY PROGRAM, IN A SANDBOX (cutbox-door.mjs). By AI agents, Wed Nov 11 2026. No macro, syntax, notation, axiom, sorry.
-/
import Derived.Test.YtnlhhjhidkjlbaaGreatDoorRows
import GoSem.ClaimSeven
namespace Go.Proofs.YtnlhhjhidkjlbaaGreatDoor
namespace Rows

/-- THE TIED CARD OF 'plaitlaw14.OptLays'. -/
def optLaysCard : Claim7 := { stood := { row := optLaysRow, standIns := [], harness := (true, "17f0895886cc79d74c07a851fb845e3a7cac9a4b571dad0f601bc93c3e1d983a"), looks := true }, kinds := [], alts := [], laidByText := true, laidKinds := [.handle, .data], laidTests := true, laidLooks := .later }
def OptLaysCardSaid : Prop := Claim7.holds Tryz.pinned (.plain (OpenSpec.ofChange optLaysSpec)) optLaysCard

/-- THE TIED CARD OF 'plaitlaw14.OptReads'. -/
def optReadsCard : Claim7 := { stood := { row := optReadsRow, standIns := [], harness := (true, "17f0895886cc79d74c07a851fb845e3a7cac9a4b571dad0f601bc93c3e1d983a"), looks := true }, kinds := [], alts := [], laidByText := true, laidKinds := [.handle, .data], laidTests := true, laidLooks := .later }
def OptReadsCardSaid : Prop := Claim7.holds Tryz.pinned (.plain (OpenSpec.ofChange optReadsSpec)) optReadsCard

/-- THE TIED CARD OF 'plaitlaw14.OptAreas'. -/
def optAreasCard : Claim7 := { stood := { row := optAreasRow, standIns := [], harness := (true, "17f0895886cc79d74c07a851fb845e3a7cac9a4b571dad0f601bc93c3e1d983a"), looks := true }, kinds := [], alts := [], laidByText := true, laidKinds := [.handle, .data], laidTests := true, laidLooks := .later }
def OptAreasCardSaid : Prop := Claim7.holds Tryz.pinned (.plain (OpenSpec.ofChange optAreasSpec)) optAreasCard

/-- THE TIED CARD OF 'plaitlaw14.OptBack'. -/
def optBackCard : Claim7 := { stood := { row := optBackRow, standIns := [], harness := (true, "17f0895886cc79d74c07a851fb845e3a7cac9a4b571dad0f601bc93c3e1d983a"), looks := true }, kinds := [], alts := [], laidByText := true, laidKinds := [.handle, .data], laidTests := true, laidLooks := .later }
def OptBackCardSaid : Prop := Claim7.holds Tryz.pinned (.plain (OpenSpec.ofChange optBackSpec)) optBackCard

/-- THE TIED CARD OF 'plaitlaw14.OptCanon'. -/
def optCanonCard : Claim7 := { stood := { row := optCanonRow, standIns := [], harness := (true, "17f0895886cc79d74c07a851fb845e3a7cac9a4b571dad0f601bc93c3e1d983a"), looks := true }, kinds := [], alts := [], laidByText := true, laidKinds := [.handle, .data], laidTests := true, laidLooks := .later }
def OptCanonCardSaid : Prop := Claim7.holds Tryz.pinned (.plain (OpenSpec.ofChange optCanonSpec)) optCanonCard

/-- THE TIED CARD OF 'plaitlaw14.OptPasses'. -/
def optPassesCard : Claim7 := { stood := { row := optPassesRow, standIns := [], harness := (true, "17f0895886cc79d74c07a851fb845e3a7cac9a4b571dad0f601bc93c3e1d983a"), looks := true }, kinds := [], alts := [], laidByText := true, laidKinds := [.handle, .data], laidTests := true, laidLooks := .later }
def OptPassesCardSaid : Prop := Claim7.holds Tryz.pinned (.plain (OpenSpec.ofChange optPassesSpec)) optPassesCard

/-- THE TIED CARD OF 'plaitlaw14.OptKnown'. -/
def optKnownCard : Claim7 := { stood := { row := optKnownRow, standIns := [], harness := (true, "17f0895886cc79d74c07a851fb845e3a7cac9a4b571dad0f601bc93c3e1d983a"), looks := true }, kinds := [], alts := [], laidByText := true, laidKinds := [.handle, .data], laidTests := true, laidLooks := .later }
def OptKnownCardSaid : Prop := Claim7.holds Tryz.pinned (.plain (OpenSpec.ofChange optKnownSpec)) optKnownCard

/-- THE SECOND FORM's CARD OF 'plaitlaw14.OptLays'. -/
def optLaysUptoCard : Claim7 := { stood := { row := optLaysUptoRow, standIns := [], harness := (true, "17f0895886cc79d74c07a851fb845e3a7cac9a4b571dad0f601bc93c3e1d983a"), looks := true }, kinds := [], alts := [], laidByText := true, laidKinds := [.handle, .data], laidTests := true, laidLooks := .later }
def OptLaysUptoCardSaid : Prop := Claim7.holds Tryz.pinned (.plain (OpenSpec.upto optLaysSpec)) optLaysUptoCard

/-- THE SECOND FORM's CARD OF 'plaitlaw14.OptReads'. -/
def optReadsUptoCard : Claim7 := { stood := { row := optReadsUptoRow, standIns := [], harness := (true, "17f0895886cc79d74c07a851fb845e3a7cac9a4b571dad0f601bc93c3e1d983a"), looks := true }, kinds := [], alts := [], laidByText := true, laidKinds := [.handle, .data], laidTests := true, laidLooks := .later }
def OptReadsUptoCardSaid : Prop := Claim7.holds Tryz.pinned (.plain (OpenSpec.upto optReadsSpec)) optReadsUptoCard

/-- THE SECOND FORM's CARD OF 'plaitlaw14.OptAreas'. -/
def optAreasUptoCard : Claim7 := { stood := { row := optAreasUptoRow, standIns := [], harness := (true, "17f0895886cc79d74c07a851fb845e3a7cac9a4b571dad0f601bc93c3e1d983a"), looks := true }, kinds := [], alts := [], laidByText := true, laidKinds := [.handle, .data], laidTests := true, laidLooks := .later }
def OptAreasUptoCardSaid : Prop := Claim7.holds Tryz.pinned (.plain (OpenSpec.upto optAreasSpec)) optAreasUptoCard

/-- THE SECOND FORM's CARD OF 'plaitlaw14.OptBack'. -/
def optBackUptoCard : Claim7 := { stood := { row := optBackUptoRow, standIns := [], harness := (true, "17f0895886cc79d74c07a851fb845e3a7cac9a4b571dad0f601bc93c3e1d983a"), looks := true }, kinds := [], alts := [], laidByText := true, laidKinds := [.handle, .data], laidTests := true, laidLooks := .later }
def OptBackUptoCardSaid : Prop := Claim7.holds Tryz.pinned (.plain (OpenSpec.upto optBackSpec)) optBackUptoCard

/-- THE SECOND FORM's CARD OF 'plaitlaw14.OptCanon'. -/
def optCanonUptoCard : Claim7 := { stood := { row := optCanonUptoRow, standIns := [], harness := (true, "17f0895886cc79d74c07a851fb845e3a7cac9a4b571dad0f601bc93c3e1d983a"), looks := true }, kinds := [], alts := [], laidByText := true, laidKinds := [.handle, .data], laidTests := true, laidLooks := .later }
def OptCanonUptoCardSaid : Prop := Claim7.holds Tryz.pinned (.plain (OpenSpec.upto optCanonSpec)) optCanonUptoCard

/-- THE SECOND FORM's CARD OF 'plaitlaw14.OptPasses'. -/
def optPassesUptoCard : Claim7 := { stood := { row := optPassesUptoRow, standIns := [], harness := (true, "17f0895886cc79d74c07a851fb845e3a7cac9a4b571dad0f601bc93c3e1d983a"), looks := true }, kinds := [], alts := [], laidByText := true, laidKinds := [.handle, .data], laidTests := true, laidLooks := .later }
def OptPassesUptoCardSaid : Prop := Claim7.holds Tryz.pinned (.plain (OpenSpec.upto optPassesSpec)) optPassesUptoCard

/-- THE SECOND FORM's CARD OF 'plaitlaw14.OptKnown'. -/
def optKnownUptoCard : Claim7 := { stood := { row := optKnownUptoRow, standIns := [], harness := (true, "17f0895886cc79d74c07a851fb845e3a7cac9a4b571dad0f601bc93c3e1d983a"), looks := true }, kinds := [], alts := [], laidByText := true, laidKinds := [.handle, .data], laidTests := true, laidLooks := .later }
def OptKnownUptoCardSaid : Prop := Claim7.holds Tryz.pinned (.plain (OpenSpec.upto optKnownSpec)) optKnownUptoCard
end Rows
end Go.Proofs.YtnlhhjhidkjlbaaGreatDoor
