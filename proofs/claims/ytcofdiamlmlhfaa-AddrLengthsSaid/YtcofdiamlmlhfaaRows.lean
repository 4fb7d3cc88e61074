/-
  No cell of these rows narrows 'for every input' (looked for: loops, veiled, ifaces, maps, wideKeys, modest, calm, conditions, laid).
  DERIVED. THE GIVEN ROWS OF THIS SEAT. 6 by the template 'for every input the law returns true; each argument reads behind the call as it read before'; 0 by the template 'total and deterministic' (their statements: YtcofdiamlmlhfaaTotals.lean).
  GIVEN WITH THE SEED: the statements are not yours to turn. If you find one false, say at which input.
  Laid BY PROGRAM, IN A SANDBOX (cutbox-rows.mjs): the forced cells as the released guide's own fill.sh prints them over the translation 63a9dd8afd541398… (all of the seat's roots in one cut). By AI agents, Wed Nov 11 2026. No macro, syntax, notation, axiom, sorry.
-/
import Derived.Test.YtcofdiamlmlhfaaChecked
import GoSem.Claim
import GoSem.ClaimJoined
import GoSem.ClaimMapViews
import Derived.JoinedTies
import Derived.KernelRfl
namespace Go.Proofs.Ytcofdiamlmlhfaa
/- THE CELL 'sum', in the pinned program and in every row, IS THE sha256 OF THE DUMP (.gsa) THAT YtcofdiamlmlhfaaProg.lean LOADS. Nothing in Lean hashes anything: it is a label: what it is worth is what the hold of that sum in a sandbox is worth. -/
noncomputable def Try.pinned : Pinned := { name := "ytcofdiamlmlhfaa", sum := "63a9dd8afd54139831919979948915475560ad55581539078f820bbbb3ffc3ea", checked := Try.checked }
namespace Rows
def none {H : Type} : Left H := { results := [], args := [] }

/-- 'plaitlaw12.AddrLays': WHATEVER THE INPUT: true; the input reads as it did. -/
def addrLaysSpec : ChangeSpec := { name := "addrLays", fn := fun _ => fun
  | [d1, d2] => { results := [.lit (.bool true)], args := [d1, d2] }
  | _ => none }
def addrLaysRow : OpenClaim := { program := "ytcofdiamlmlhfaa", sum := "63a9dd8afd54139831919979948915475560ad55581539078f820bbbb3ffc3ea", func := "plait/plaitlaw12.AddrLays", spec := "addrLays", inPlace := ["internal/abi.NoEscape", "internal/bytealg.MakeNoZero"], unfollowed := true, recurses := true, apart := false }
def AddrLaysSaid : Prop := addrLaysRow.holds Try.pinned (OpenSpec.ofChange addrLaysSpec)

/-- ITS FALSE NEIGHBOUR: 'it returns false'. Refute it at one input. -/
def addrLaysWrong : ChangeSpec := { name := "addrLays", fn := fun _ => fun
  | [d1, d2] => { results := [.lit (.bool false)], args := [d1, d2] }
  | _ => none }
def AddrLaysWrongFalsely : Prop := addrLaysRow.holds Try.pinned (OpenSpec.ofChange addrLaysWrong)

/-- 'plaitlaw12.AddrReads': WHATEVER THE INPUT: true; the input reads as it did. -/
def addrReadsSpec : ChangeSpec := { name := "addrReads", fn := fun _ => fun
  | [d1, d2, d3] => { results := [.lit (.bool true)], args := [d1, d2, d3] }
  | _ => none }
def addrReadsRow : OpenClaim := { program := "ytcofdiamlmlhfaa", sum := "63a9dd8afd54139831919979948915475560ad55581539078f820bbbb3ffc3ea", func := "plait/plaitlaw12.AddrReads", spec := "addrReads", inPlace := ["internal/abi.NoEscape", "internal/bytealg.MakeNoZero"], unfollowed := true, recurses := true, apart := false }
def AddrReadsSaid : Prop := addrReadsRow.holds Try.pinned (OpenSpec.ofChange addrReadsSpec)

/-- ITS FALSE NEIGHBOUR: 'it returns false'. Refute it at one input. -/
def addrReadsWrong : ChangeSpec := { name := "addrReads", fn := fun _ => fun
  | [d1, d2, d3] => { results := [.lit (.bool false)], args := [d1, d2, d3] }
  | _ => none }
def AddrReadsWrongFalsely : Prop := addrReadsRow.holds Try.pinned (OpenSpec.ofChange addrReadsWrong)

/-- 'plaitlaw12.AddrBack': WHATEVER THE INPUT: true; the input reads as it did. -/
def addrBackSpec : ChangeSpec := { name := "addrBack", fn := fun _ => fun
  | [d1, d2, d3] => { results := [.lit (.bool true)], args := [d1, d2, d3] }
  | _ => none }
def addrBackRow : OpenClaim := { program := "ytcofdiamlmlhfaa", sum := "63a9dd8afd54139831919979948915475560ad55581539078f820bbbb3ffc3ea", func := "plait/plaitlaw12.AddrBack", spec := "addrBack", inPlace := ["internal/abi.NoEscape", "internal/bytealg.MakeNoZero"], unfollowed := true, recurses := true, apart := false }
def AddrBackSaid : Prop := addrBackRow.holds Try.pinned (OpenSpec.ofChange addrBackSpec)

/-- ITS FALSE NEIGHBOUR: 'it returns false'. Refute it at one input. -/
def addrBackWrong : ChangeSpec := { name := "addrBack", fn := fun _ => fun
  | [d1, d2, d3] => { results := [.lit (.bool false)], args := [d1, d2, d3] }
  | _ => none }
def AddrBackWrongFalsely : Prop := addrBackRow.holds Try.pinned (OpenSpec.ofChange addrBackWrong)

/-- 'plaitlaw12.AddrPasses': WHATEVER THE INPUT: true; the input reads as it did. -/
def addrPassesSpec : ChangeSpec := { name := "addrPasses", fn := fun _ => fun
  | [d1, d2, d3] => { results := [.lit (.bool true)], args := [d1, d2, d3] }
  | _ => none }
def addrPassesRow : OpenClaim := { program := "ytcofdiamlmlhfaa", sum := "63a9dd8afd54139831919979948915475560ad55581539078f820bbbb3ffc3ea", func := "plait/plaitlaw12.AddrPasses", spec := "addrPasses", inPlace := ["internal/abi.NoEscape", "internal/bytealg.MakeNoZero"], unfollowed := true, recurses := true, apart := false }
def AddrPassesSaid : Prop := addrPassesRow.holds Try.pinned (OpenSpec.ofChange addrPassesSpec)

/-- ITS FALSE NEIGHBOUR: 'it returns false'. Refute it at one input. -/
def addrPassesWrong : ChangeSpec := { name := "addrPasses", fn := fun _ => fun
  | [d1, d2, d3] => { results := [.lit (.bool false)], args := [d1, d2, d3] }
  | _ => none }
def AddrPassesWrongFalsely : Prop := addrPassesRow.holds Try.pinned (OpenSpec.ofChange addrPassesWrong)

/-- 'plaitlaw12.AddrLengths': WHATEVER THE INPUT: true; the input reads as it did. -/
def addrLengthsSpec : ChangeSpec := { name := "addrLengths", fn := fun _ => fun
  | [d1, d2, d3] => { results := [.lit (.bool true)], args := [d1, d2, d3] }
  | _ => none }
def addrLengthsRow : OpenClaim := { program := "ytcofdiamlmlhfaa", sum := "63a9dd8afd54139831919979948915475560ad55581539078f820bbbb3ffc3ea", func := "plait/plaitlaw12.AddrLengths", spec := "addrLengths", inPlace := ["internal/abi.NoEscape", "internal/bytealg.MakeNoZero"], unfollowed := true, recurses := true, apart := false }
def AddrLengthsSaid : Prop := addrLengthsRow.holds Try.pinned (OpenSpec.ofChange addrLengthsSpec)

/-- ITS FALSE NEIGHBOUR: 'it returns false'. Refute it at one input. -/
def addrLengthsWrong : ChangeSpec := { name := "addrLengths", fn := fun _ => fun
  | [d1, d2, d3] => { results := [.lit (.bool false)], args := [d1, d2, d3] }
  | _ => none }
def AddrLengthsWrongFalsely : Prop := addrLengthsRow.holds Try.pinned (OpenSpec.ofChange addrLengthsWrong)

/-- 'plaitlaw12.AddrKnown': WHATEVER THE INPUT: true; the input reads as it did. -/
def addrKnownSpec : ChangeSpec := { name := "addrKnown", fn := fun _ => fun
  | [] => { results := [.lit (.bool true)], args := [] }
  | _ => none }
def addrKnownRow : OpenClaim := { program := "ytcofdiamlmlhfaa", sum := "63a9dd8afd54139831919979948915475560ad55581539078f820bbbb3ffc3ea", func := "plait/plaitlaw12.AddrKnown", spec := "addrKnown", inPlace := ["internal/abi.NoEscape", "internal/bytealg.MakeNoZero"], unfollowed := true, recurses := true, apart := false }
def AddrKnownSaid : Prop := addrKnownRow.holds Try.pinned (OpenSpec.ofChange addrKnownSpec)

/-- ITS FALSE NEIGHBOUR: 'it returns false'. Refute it at one input. -/
def addrKnownWrong : ChangeSpec := { name := "addrKnown", fn := fun _ => fun
  | [] => { results := [.lit (.bool false)], args := [] }
  | _ => none }
def AddrKnownWrongFalsely : Prop := addrKnownRow.holds Try.pinned (OpenSpec.ofChange addrKnownWrong)

/- THE SECOND FORM. 'bulk': how many values and letters a reading holds, each counted each time it is reached (what is shared counts as often as it is met; a slice's spare places count too). A statement '..UptoSaid' is the law's where the arguments, and the package variables that the reading takes, are together of bulk at most 1048576: NARROWER than '..Said'. Prove '..Said' where nothing that the law and all that it calls make is longer than what came in: it says more and counts as full. Else prove '..UptoSaid'. A law counts once. -/
mutual
def uptoBulk {H : Type} : DataW H → Nat
  | .lit (.string bytes) => bytes.length + 1
  | .lit _ => 1
  | .nil => 1
  | .ptr d => uptoBulk d + 1
  | .slice elems spare => uptoBulkAll elems + uptoBulkAll spare + 1
  | .agg parts => uptoBulkAll parts + 1
  | .iface _ d => uptoBulk d + 1
  | .map entries => uptoBulkEntries entries + 1
  | .held _ => 1
def uptoBulkAll {H : Type} : List (DataW H) → Nat
  | [] => 0
  | d :: r => uptoBulk d + uptoBulkAll r
def uptoBulkEntries {H : Type} : List (Lit × DataW H) → Nat
  | [] => 0
  | x :: r => uptoBulkEntry x + uptoBulkEntries r
def uptoBulkEntry {H : Type} : Lit × DataW H → Nat
  | (.string bytes, d) => bytes.length + uptoBulk d + 1
  | (_, d) => uptoBulk d + 1
 end
def uptoSmall : (H : Type) → List (DataW H) → Bool := fun _ ds => decide (uptoBulkAll ds ≤ 1048576)
def OpenSpec.upto (s : _root_.Go.ChangeSpec) : _root_.Go.OpenSpec := { _root_.Go.OpenSpec.ofChange s with cond := some uptoSmall }

/-- 'plaitlaw12.AddrLays', WHERE WHAT IT READS IS OF BULK AT MOST 1048576: true; the input reads as it did. -/
def addrLaysUptoRow : OpenClaim := { program := "ytcofdiamlmlhfaa", sum := "63a9dd8afd54139831919979948915475560ad55581539078f820bbbb3ffc3ea", func := "plait/plaitlaw12.AddrLays", spec := "addrLays", inPlace := ["internal/abi.NoEscape", "internal/bytealg.MakeNoZero"], unfollowed := true, recurses := true, apart := false, narrowed := true }
def AddrLaysUptoSaid : Prop := addrLaysUptoRow.holds Try.pinned (OpenSpec.upto addrLaysSpec)

/-- 'plaitlaw12.AddrReads', WHERE WHAT IT READS IS OF BULK AT MOST 1048576: true; the input reads as it did. -/
def addrReadsUptoRow : OpenClaim := { program := "ytcofdiamlmlhfaa", sum := "63a9dd8afd54139831919979948915475560ad55581539078f820bbbb3ffc3ea", func := "plait/plaitlaw12.AddrReads", spec := "addrReads", inPlace := ["internal/abi.NoEscape", "internal/bytealg.MakeNoZero"], unfollowed := true, recurses := true, apart := false, narrowed := true }
def AddrReadsUptoSaid : Prop := addrReadsUptoRow.holds Try.pinned (OpenSpec.upto addrReadsSpec)

/-- 'plaitlaw12.AddrBack', WHERE WHAT IT READS IS OF BULK AT MOST 1048576: true; the input reads as it did. -/
def addrBackUptoRow : OpenClaim := { program := "ytcofdiamlmlhfaa", sum := "63a9dd8afd54139831919979948915475560ad55581539078f820bbbb3ffc3ea", func := "plait/plaitlaw12.AddrBack", spec := "addrBack", inPlace := ["internal/abi.NoEscape", "internal/bytealg.MakeNoZero"], unfollowed := true, recurses := true, apart := false, narrowed := true }
def AddrBackUptoSaid : Prop := addrBackUptoRow.holds Try.pinned (OpenSpec.upto addrBackSpec)

/-- 'plaitlaw12.AddrPasses', WHERE WHAT IT READS IS OF BULK AT MOST 1048576: true; the input reads as it did. -/
def addrPassesUptoRow : OpenClaim := { program := "ytcofdiamlmlhfaa", sum := "63a9dd8afd54139831919979948915475560ad55581539078f820bbbb3ffc3ea", func := "plait/plaitlaw12.AddrPasses", spec := "addrPasses", inPlace := ["internal/abi.NoEscape", "internal/bytealg.MakeNoZero"], unfollowed := true, recurses := true, apart := false, narrowed := true }
def AddrPassesUptoSaid : Prop := addrPassesUptoRow.holds Try.pinned (OpenSpec.upto addrPassesSpec)

/-- 'plaitlaw12.AddrLengths', WHERE WHAT IT READS IS OF BULK AT MOST 1048576: true; the input reads as it did. -/
def addrLengthsUptoRow : OpenClaim := { program := "ytcofdiamlmlhfaa", sum := "63a9dd8afd54139831919979948915475560ad55581539078f820bbbb3ffc3ea", func := "plait/plaitlaw12.AddrLengths", spec := "addrLengths", inPlace := ["internal/abi.NoEscape", "internal/bytealg.MakeNoZero"], unfollowed := true, recurses := true, apart := false, narrowed := true }
def AddrLengthsUptoSaid : Prop := addrLengthsUptoRow.holds Try.pinned (OpenSpec.upto addrLengthsSpec)

/-- 'plaitlaw12.AddrKnown', WHERE WHAT IT READS IS OF BULK AT MOST 1048576: true; the input reads as it did. -/
def addrKnownUptoRow : OpenClaim := { program := "ytcofdiamlmlhfaa", sum := "63a9dd8afd54139831919979948915475560ad55581539078f820bbbb3ffc3ea", func := "plait/plaitlaw12.AddrKnown", spec := "addrKnown", inPlace := ["internal/abi.NoEscape", "internal/bytealg.MakeNoZero"], unfollowed := true, recurses := true, apart := false, narrowed := true }
def AddrKnownUptoSaid : Prop := addrKnownUptoRow.holds Try.pinned (OpenSpec.upto addrKnownSpec)

end Rows
end Go.Proofs.Ytcofdiamlmlhfaa
