/-
  No cell of these rows narrows 'for every input' (looked for: loops, veiled, ifaces, maps, wideKeys, modest, calm, conditions, laid).
  DERIVED. THE GIVEN ROWS OF THIS SEAT. 5 by the template 'for every input the law returns true; each argument reads behind the call as it read before'; 0 by the template 'total and deterministic' (their statements: YtpedbmnifjhaiaaTotals.lean).
  GIVEN WITH THE SEED: the statements are not yours to turn. If you find one false, say at which input.
  Laid BY PROGRAM, IN A SANDBOX (cutbox-rows.mjs): the forced cells as the released guide's own fill.sh prints them over the translation 44fd432d903ca768… (all of the seat's roots in one cut). By AI agents, Wed Nov 11 2026. No macro, syntax, notation, axiom, sorry.
-/
import Derived.Test.YtpedbmnifjhaiaaChecked
import GoSem.Claim
import GoSem.ClaimJoined
import GoSem.ClaimMapViews
import Derived.JoinedTies
import Derived.KernelRfl
namespace Go.Proofs.Ytpedbmnifjhaiaa
/- THE CELL 'sum', in the pinned program and in every row, IS THE sha256 OF THE DUMP (.gsa) THAT YtpedbmnifjhaiaaProg.lean LOADS. Nothing in Lean hashes anything: it is a label: what it is worth is what the hold of that sum in a sandbox is worth. -/
noncomputable def Try.pinned : Pinned := { name := "ytpedbmnifjhaiaa", sum := "44fd432d903ca768ef06691b5f3f20e16fe2d997e65866a1776caf4ddd532778", checked := Try.checked }
namespace Rows
def none {H : Type} : Left H := { results := [], args := [] }

/-- 'plaitlaw09.CapableLays': WHATEVER THE INPUT: true; the input reads as it did. -/
def capableLaysSpec : ChangeSpec := { name := "capableLays", fn := fun _ => fun
  | [d1, d2] => { results := [.lit (.bool true)], args := [d1, d2] }
  | _ => none }
def capableLaysRow : OpenClaim := { program := "ytpedbmnifjhaiaa", sum := "44fd432d903ca768ef06691b5f3f20e16fe2d997e65866a1776caf4ddd532778", func := "plait/plaitlaw09.CapableLays", spec := "capableLays", inPlace := ["internal/abi.NoEscape", "internal/bytealg.MakeNoZero"], unfollowed := true, recurses := true, apart := false }
def CapableLaysSaid : Prop := capableLaysRow.holds Try.pinned (OpenSpec.ofChange capableLaysSpec)

/-- ITS FALSE NEIGHBOUR: 'it returns false'. Refute it at one input. -/
def capableLaysWrong : ChangeSpec := { name := "capableLays", fn := fun _ => fun
  | [d1, d2] => { results := [.lit (.bool false)], args := [d1, d2] }
  | _ => none }
def CapableLaysWrongFalsely : Prop := capableLaysRow.holds Try.pinned (OpenSpec.ofChange capableLaysWrong)

/-- 'plaitlaw09.CapableTells': WHATEVER THE INPUT: true; the input reads as it did. -/
def capableTellsSpec : ChangeSpec := { name := "capableTells", fn := fun _ => fun
  | [d1, d2, d3, d4] => { results := [.lit (.bool true)], args := [d1, d2, d3, d4] }
  | _ => none }
def capableTellsRow : OpenClaim := { program := "ytpedbmnifjhaiaa", sum := "44fd432d903ca768ef06691b5f3f20e16fe2d997e65866a1776caf4ddd532778", func := "plait/plaitlaw09.CapableTells", spec := "capableTells", inPlace := ["internal/abi.NoEscape", "internal/bytealg.MakeNoZero"], unfollowed := true, recurses := true, apart := false }
def CapableTellsSaid : Prop := capableTellsRow.holds Try.pinned (OpenSpec.ofChange capableTellsSpec)

/-- ITS FALSE NEIGHBOUR: 'it returns false'. Refute it at one input. -/
def capableTellsWrong : ChangeSpec := { name := "capableTells", fn := fun _ => fun
  | [d1, d2, d3, d4] => { results := [.lit (.bool false)], args := [d1, d2, d3, d4] }
  | _ => none }
def CapableTellsWrongFalsely : Prop := capableTellsRow.holds Try.pinned (OpenSpec.ofChange capableTellsWrong)

/-- 'plaitlaw09.CapableBack': WHATEVER THE INPUT: true; the input reads as it did. -/
def capableBackSpec : ChangeSpec := { name := "capableBack", fn := fun _ => fun
  | [d1, d2] => { results := [.lit (.bool true)], args := [d1, d2] }
  | _ => none }
def capableBackRow : OpenClaim := { program := "ytpedbmnifjhaiaa", sum := "44fd432d903ca768ef06691b5f3f20e16fe2d997e65866a1776caf4ddd532778", func := "plait/plaitlaw09.CapableBack", spec := "capableBack", inPlace := ["internal/abi.NoEscape", "internal/bytealg.MakeNoZero"], unfollowed := true, recurses := true, apart := false }
def CapableBackSaid : Prop := capableBackRow.holds Try.pinned (OpenSpec.ofChange capableBackSpec)

/-- ITS FALSE NEIGHBOUR: 'it returns false'. Refute it at one input. -/
def capableBackWrong : ChangeSpec := { name := "capableBack", fn := fun _ => fun
  | [d1, d2] => { results := [.lit (.bool false)], args := [d1, d2] }
  | _ => none }
def CapableBackWrongFalsely : Prop := capableBackRow.holds Try.pinned (OpenSpec.ofChange capableBackWrong)

/-- 'plaitlaw09.CapablePassed': WHATEVER THE INPUT: true; the input reads as it did. -/
def capablePassedSpec : ChangeSpec := { name := "capablePassed", fn := fun _ => fun
  | [d1, d2, d3] => { results := [.lit (.bool true)], args := [d1, d2, d3] }
  | _ => none }
def capablePassedRow : OpenClaim := { program := "ytpedbmnifjhaiaa", sum := "44fd432d903ca768ef06691b5f3f20e16fe2d997e65866a1776caf4ddd532778", func := "plait/plaitlaw09.CapablePassed", spec := "capablePassed", inPlace := ["internal/abi.NoEscape", "internal/bytealg.MakeNoZero"], unfollowed := true, recurses := true, apart := false }
def CapablePassedSaid : Prop := capablePassedRow.holds Try.pinned (OpenSpec.ofChange capablePassedSpec)

/-- ITS FALSE NEIGHBOUR: 'it returns false'. Refute it at one input. -/
def capablePassedWrong : ChangeSpec := { name := "capablePassed", fn := fun _ => fun
  | [d1, d2, d3] => { results := [.lit (.bool false)], args := [d1, d2, d3] }
  | _ => none }
def CapablePassedWrongFalsely : Prop := capablePassedRow.holds Try.pinned (OpenSpec.ofChange capablePassedWrong)

/-- 'plaitlaw09.CapableKnown': WHATEVER THE INPUT: true; the input reads as it did. -/
def capableKnownSpec : ChangeSpec := { name := "capableKnown", fn := fun _ => fun
  | [] => { results := [.lit (.bool true)], args := [] }
  | _ => none }
def capableKnownRow : OpenClaim := { program := "ytpedbmnifjhaiaa", sum := "44fd432d903ca768ef06691b5f3f20e16fe2d997e65866a1776caf4ddd532778", func := "plait/plaitlaw09.CapableKnown", spec := "capableKnown", inPlace := ["internal/abi.NoEscape", "internal/bytealg.MakeNoZero"], unfollowed := true, recurses := true, apart := false }
def CapableKnownSaid : Prop := capableKnownRow.holds Try.pinned (OpenSpec.ofChange capableKnownSpec)

/-- ITS FALSE NEIGHBOUR: 'it returns false'. Refute it at one input. -/
def capableKnownWrong : ChangeSpec := { name := "capableKnown", fn := fun _ => fun
  | [] => { results := [.lit (.bool false)], args := [] }
  | _ => none }
def CapableKnownWrongFalsely : Prop := capableKnownRow.holds Try.pinned (OpenSpec.ofChange capableKnownWrong)

/- THE SECOND FORM. 'bulk': how many values and letters a reading holds, each counted each time it is reached (what is shared counts as often as it is met; a slice's spare places count too). A statement '..UptoSaid' is the law's where the arguments, and the package variables that the reading takes, are together of bulk at most 1048576: NARROWER than '..Said'. Prove '..Said' where nothing that the law and all that it calls make is longer than what came in: it says more and counts as full. Else prove '..UptoSaid'. A law counts once. -/
mutual
def uptoBulk {H : Type} : DataW H → Nat
  | .lit (.string bytes) => bytes.length + 1
  | .lit _ => 1
  | .nil => 1
  | .ptr d => uptoBulk d + 1
  | .slice elems spare => uptoBulkAll elems + uptoBulkAll spare + 1
  | .agg parts => uptoBulkAll parts + 1
  | .iface _ d => uptoBulk d + 1
  | .map entries => uptoBulkEntries entries + 1
  | .held _ => 1
def uptoBulkAll {H : Type} : List (DataW H) → Nat
  | [] => 0
  | d :: r => uptoBulk d + uptoBulkAll r
def uptoBulkEntries {H : Type} : List (Lit × DataW H) → Nat
  | [] => 0
  | x :: r => uptoBulkEntry x + uptoBulkEntries r
def uptoBulkEntry {H : Type} : Lit × DataW H → Nat
  | (.string bytes, d) => bytes.length + uptoBulk d + 1
  | (_, d) => uptoBulk d + 1
 end
def uptoSmall : (H : Type) → List (DataW H) → Bool := fun _ ds => decide (uptoBulkAll ds ≤ 1048576)
def OpenSpec.upto (s : _root_.Go.ChangeSpec) : _root_.Go.OpenSpec := { _root_.Go.OpenSpec.ofChange s with cond := some uptoSmall }

/-- 'plaitlaw09.CapableLays', WHERE WHAT IT READS IS OF BULK AT MOST 1048576: true; the input reads as it did. -/
def capableLaysUptoRow : OpenClaim := { program := "ytpedbmnifjhaiaa", sum := "44fd432d903ca768ef06691b5f3f20e16fe2d997e65866a1776caf4ddd532778", func := "plait/plaitlaw09.CapableLays", spec := "capableLays", inPlace := ["internal/abi.NoEscape", "internal/bytealg.MakeNoZero"], unfollowed := true, recurses := true, apart := false, narrowed := true }
def CapableLaysUptoSaid : Prop := capableLaysUptoRow.holds Try.pinned (OpenSpec.upto capableLaysSpec)

/-- 'plaitlaw09.CapableTells', WHERE WHAT IT READS IS OF BULK AT MOST 1048576: true; the input reads as it did. -/
def capableTellsUptoRow : OpenClaim := { program := "ytpedbmnifjhaiaa", sum := "44fd432d903ca768ef06691b5f3f20e16fe2d997e65866a1776caf4ddd532778", func := "plait/plaitlaw09.CapableTells", spec := "capableTells", inPlace := ["internal/abi.NoEscape", "internal/bytealg.MakeNoZero"], unfollowed := true, recurses := true, apart := false, narrowed := true }
def CapableTellsUptoSaid : Prop := capableTellsUptoRow.holds Try.pinned (OpenSpec.upto capableTellsSpec)

/-- 'plaitlaw09.CapableBack', WHERE WHAT IT READS IS OF BULK AT MOST 1048576: true; the input reads as it did. -/
def capableBackUptoRow : OpenClaim := { program := "ytpedbmnifjhaiaa", sum := "44fd432d903ca768ef06691b5f3f20e16fe2d997e65866a1776caf4ddd532778", func := "plait/plaitlaw09.CapableBack", spec := "capableBack", inPlace := ["internal/abi.NoEscape", "internal/bytealg.MakeNoZero"], unfollowed := true, recurses := true, apart := false, narrowed := true }
def CapableBackUptoSaid : Prop := capableBackUptoRow.holds Try.pinned (OpenSpec.upto capableBackSpec)

/-- 'plaitlaw09.CapablePassed', WHERE WHAT IT READS IS OF BULK AT MOST 1048576: true; the input reads as it did. -/
def capablePassedUptoRow : OpenClaim := { program := "ytpedbmnifjhaiaa", sum := "44fd432d903ca768ef06691b5f3f20e16fe2d997e65866a1776caf4ddd532778", func := "plait/plaitlaw09.CapablePassed", spec := "capablePassed", inPlace := ["internal/abi.NoEscape", "internal/bytealg.MakeNoZero"], unfollowed := true, recurses := true, apart := false, narrowed := true }
def CapablePassedUptoSaid : Prop := capablePassedUptoRow.holds Try.pinned (OpenSpec.upto capablePassedSpec)

/-- 'plaitlaw09.CapableKnown', WHERE WHAT IT READS IS OF BULK AT MOST 1048576: true; the input reads as it did. -/
def capableKnownUptoRow : OpenClaim := { program := "ytpedbmnifjhaiaa", sum := "44fd432d903ca768ef06691b5f3f20e16fe2d997e65866a1776caf4ddd532778", func := "plait/plaitlaw09.CapableKnown", spec := "capableKnown", inPlace := ["internal/abi.NoEscape", "internal/bytealg.MakeNoZero"], unfollowed := true, recurses := true, apart := false, narrowed := true }
def CapableKnownUptoSaid : Prop := capableKnownUptoRow.holds Try.pinned (OpenSpec.upto capableKnownSpec)

end Rows
end Go.Proofs.Ytpedbmnifjhaiaa
