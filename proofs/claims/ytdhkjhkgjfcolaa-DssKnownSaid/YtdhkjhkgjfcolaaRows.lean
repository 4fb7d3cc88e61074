/-
  No cell of these rows narrows 'for every input' (looked for: loops, veiled, ifaces, maps, wideKeys, modest, calm, conditions, laid).
  DERIVED. THE GIVEN ROWS OF THIS SEAT. 6 by the template 'for every input the law returns true; each argument reads behind the call as it read before'; 0 by the template 'total and deterministic' (their statements: YtdhkjhkgjfcolaaTotals.lean).
  GIVEN WITH THE SEED: the statements are not yours to turn. If you find one false, say at which input.
  Laid BY PROGRAM, IN A SANDBOX (cutbox-rows.mjs): the forced cells as the released guide's own fill.sh prints them over the translation 0c6d5c7904078306… (all of the seat's roots in one cut). By AI agents, Wed Nov 11 2026. No macro, syntax, notation, axiom, sorry.
-/
import Derived.Test.YtdhkjhkgjfcolaaChecked
import GoSem.Claim
import GoSem.ClaimJoined
import GoSem.ClaimMapViews
import Derived.JoinedTies
import Derived.KernelRfl
namespace Go.Proofs.Ytdhkjhkgjfcolaa
/- THE CELL 'sum', in the pinned program and in every row, IS THE sha256 OF THE DUMP (.gsa) THAT YtdhkjhkgjfcolaaProg.lean LOADS. Nothing in Lean hashes anything: it is a label: what it is worth is what the hold of that sum in a sandbox is worth. -/
noncomputable def Try.pinned : Pinned := { name := "ytdhkjhkgjfcolaa", sum := "0c6d5c79040783063e4f82f818a2019184b39f413e1fc89d771d4b57ffd2958a", checked := Try.checked }
namespace Rows
def none {H : Type} : Left H := { results := [], args := [] }

/-- 'plaitlaw11.DssLays': WHATEVER THE INPUT: true; the input reads as it did. -/
def dssLaysSpec : ChangeSpec := { name := "dssLays", fn := fun _ => fun
  | [d1, d2, d3] => { results := [.lit (.bool true)], args := [d1, d2, d3] }
  | _ => none }
def dssLaysRow : OpenClaim := { program := "ytdhkjhkgjfcolaa", sum := "0c6d5c79040783063e4f82f818a2019184b39f413e1fc89d771d4b57ffd2958a", func := "plait/plaitlaw11.DssLays", spec := "dssLays", inPlace := ["internal/abi.NoEscape", "internal/bytealg.MakeNoZero"], unfollowed := true, recurses := true, apart := false }
def DssLaysSaid : Prop := dssLaysRow.holds Try.pinned (OpenSpec.ofChange dssLaysSpec)

/-- ITS FALSE NEIGHBOUR: 'it returns false'. Refute it at one input. -/
def dssLaysWrong : ChangeSpec := { name := "dssLays", fn := fun _ => fun
  | [d1, d2, d3] => { results := [.lit (.bool false)], args := [d1, d2, d3] }
  | _ => none }
def DssLaysWrongFalsely : Prop := dssLaysRow.holds Try.pinned (OpenSpec.ofChange dssLaysWrong)

/-- 'plaitlaw11.DssTells': WHATEVER THE INPUT: true; the input reads as it did. -/
def dssTellsSpec : ChangeSpec := { name := "dssTells", fn := fun _ => fun
  | [d1, d2, d3, d4] => { results := [.lit (.bool true)], args := [d1, d2, d3, d4] }
  | _ => none }
def dssTellsRow : OpenClaim := { program := "ytdhkjhkgjfcolaa", sum := "0c6d5c79040783063e4f82f818a2019184b39f413e1fc89d771d4b57ffd2958a", func := "plait/plaitlaw11.DssTells", spec := "dssTells", inPlace := ["internal/abi.NoEscape", "internal/bytealg.MakeNoZero"], unfollowed := true, recurses := true, apart := false }
def DssTellsSaid : Prop := dssTellsRow.holds Try.pinned (OpenSpec.ofChange dssTellsSpec)

/-- ITS FALSE NEIGHBOUR: 'it returns false'. Refute it at one input. -/
def dssTellsWrong : ChangeSpec := { name := "dssTells", fn := fun _ => fun
  | [d1, d2, d3, d4] => { results := [.lit (.bool false)], args := [d1, d2, d3, d4] }
  | _ => none }
def DssTellsWrongFalsely : Prop := dssTellsRow.holds Try.pinned (OpenSpec.ofChange dssTellsWrong)

/-- 'plaitlaw11.DssBack': WHATEVER THE INPUT: true; the input reads as it did. -/
def dssBackSpec : ChangeSpec := { name := "dssBack", fn := fun _ => fun
  | [d1, d2] => { results := [.lit (.bool true)], args := [d1, d2] }
  | _ => none }
def dssBackRow : OpenClaim := { program := "ytdhkjhkgjfcolaa", sum := "0c6d5c79040783063e4f82f818a2019184b39f413e1fc89d771d4b57ffd2958a", func := "plait/plaitlaw11.DssBack", spec := "dssBack", inPlace := ["internal/abi.NoEscape", "internal/bytealg.MakeNoZero"], unfollowed := true, recurses := true, apart := false }
def DssBackSaid : Prop := dssBackRow.holds Try.pinned (OpenSpec.ofChange dssBackSpec)

/-- ITS FALSE NEIGHBOUR: 'it returns false'. Refute it at one input. -/
def dssBackWrong : ChangeSpec := { name := "dssBack", fn := fun _ => fun
  | [d1, d2] => { results := [.lit (.bool false)], args := [d1, d2] }
  | _ => none }
def DssBackWrongFalsely : Prop := dssBackRow.holds Try.pinned (OpenSpec.ofChange dssBackWrong)

/-- 'plaitlaw11.DssPassed': WHATEVER THE INPUT: true; the input reads as it did. -/
def dssPassedSpec : ChangeSpec := { name := "dssPassed", fn := fun _ => fun
  | [d1, d2] => { results := [.lit (.bool true)], args := [d1, d2] }
  | _ => none }
def dssPassedRow : OpenClaim := { program := "ytdhkjhkgjfcolaa", sum := "0c6d5c79040783063e4f82f818a2019184b39f413e1fc89d771d4b57ffd2958a", func := "plait/plaitlaw11.DssPassed", spec := "dssPassed", inPlace := ["internal/abi.NoEscape", "internal/bytealg.MakeNoZero"], unfollowed := true, recurses := true, apart := false }
def DssPassedSaid : Prop := dssPassedRow.holds Try.pinned (OpenSpec.ofChange dssPassedSpec)

/-- ITS FALSE NEIGHBOUR: 'it returns false'. Refute it at one input. -/
def dssPassedWrong : ChangeSpec := { name := "dssPassed", fn := fun _ => fun
  | [d1, d2] => { results := [.lit (.bool false)], args := [d1, d2] }
  | _ => none }
def DssPassedWrongFalsely : Prop := dssPassedRow.holds Try.pinned (OpenSpec.ofChange dssPassedWrong)

/-- 'plaitlaw11.DssSizes': WHATEVER THE INPUT: true; the input reads as it did. -/
def dssSizesSpec : ChangeSpec := { name := "dssSizes", fn := fun _ => fun
  | [d1, d2] => { results := [.lit (.bool true)], args := [d1, d2] }
  | _ => none }
def dssSizesRow : OpenClaim := { program := "ytdhkjhkgjfcolaa", sum := "0c6d5c79040783063e4f82f818a2019184b39f413e1fc89d771d4b57ffd2958a", func := "plait/plaitlaw11.DssSizes", spec := "dssSizes", inPlace := ["internal/abi.NoEscape", "internal/bytealg.MakeNoZero"], unfollowed := true, recurses := true, apart := false }
def DssSizesSaid : Prop := dssSizesRow.holds Try.pinned (OpenSpec.ofChange dssSizesSpec)

/-- ITS FALSE NEIGHBOUR: 'it returns false'. Refute it at one input. -/
def dssSizesWrong : ChangeSpec := { name := "dssSizes", fn := fun _ => fun
  | [d1, d2] => { results := [.lit (.bool false)], args := [d1, d2] }
  | _ => none }
def DssSizesWrongFalsely : Prop := dssSizesRow.holds Try.pinned (OpenSpec.ofChange dssSizesWrong)

/-- 'plaitlaw11.DssKnown': WHATEVER THE INPUT: true; the input reads as it did. -/
def dssKnownSpec : ChangeSpec := { name := "dssKnown", fn := fun _ => fun
  | [] => { results := [.lit (.bool true)], args := [] }
  | _ => none }
def dssKnownRow : OpenClaim := { program := "ytdhkjhkgjfcolaa", sum := "0c6d5c79040783063e4f82f818a2019184b39f413e1fc89d771d4b57ffd2958a", func := "plait/plaitlaw11.DssKnown", spec := "dssKnown", inPlace := ["internal/abi.NoEscape", "internal/bytealg.MakeNoZero"], unfollowed := true, recurses := true, apart := false }
def DssKnownSaid : Prop := dssKnownRow.holds Try.pinned (OpenSpec.ofChange dssKnownSpec)

/-- ITS FALSE NEIGHBOUR: 'it returns false'. Refute it at one input. -/
def dssKnownWrong : ChangeSpec := { name := "dssKnown", fn := fun _ => fun
  | [] => { results := [.lit (.bool false)], args := [] }
  | _ => none }
def DssKnownWrongFalsely : Prop := dssKnownRow.holds Try.pinned (OpenSpec.ofChange dssKnownWrong)

/- THE SECOND FORM. 'bulk': how many values and letters a reading holds, each counted each time it is reached (what is shared counts as often as it is met; a slice's spare places count too). A statement '..UptoSaid' is the law's where the arguments, and the package variables that the reading takes, are together of bulk at most 1048576: NARROWER than '..Said'. Prove '..Said' where nothing that the law and all that it calls make is longer than what came in: it says more and counts as full. Else prove '..UptoSaid'. A law counts once. -/
mutual
def uptoBulk {H : Type} : DataW H → Nat
  | .lit (.string bytes) => bytes.length + 1
  | .lit _ => 1
  | .nil => 1
  | .ptr d => uptoBulk d + 1
  | .slice elems spare => uptoBulkAll elems + uptoBulkAll spare + 1
  | .agg parts => uptoBulkAll parts + 1
  | .iface _ d => uptoBulk d + 1
  | .map entries => uptoBulkEntries entries + 1
  | .held _ => 1
def uptoBulkAll {H : Type} : List (DataW H) → Nat
  | [] => 0
  | d :: r => uptoBulk d + uptoBulkAll r
def uptoBulkEntries {H : Type} : List (Lit × DataW H) → Nat
  | [] => 0
  | x :: r => uptoBulkEntry x + uptoBulkEntries r
def uptoBulkEntry {H : Type} : Lit × DataW H → Nat
  | (.string bytes, d) => bytes.length + uptoBulk d + 1
  | (_, d) => uptoBulk d + 1
 end
def uptoSmall : (H : Type) → List (DataW H) → Bool := fun _ ds => decide (uptoBulkAll ds ≤ 1048576)
def OpenSpec.upto (s : _root_.Go.ChangeSpec) : _root_.Go.OpenSpec := { _root_.Go.OpenSpec.ofChange s with cond := some uptoSmall }

/-- 'plaitlaw11.DssLays', WHERE WHAT IT READS IS OF BULK AT MOST 1048576: true; the input reads as it did. -/
def dssLaysUptoRow : OpenClaim := { program := "ytdhkjhkgjfcolaa", sum := "0c6d5c79040783063e4f82f818a2019184b39f413e1fc89d771d4b57ffd2958a", func := "plait/plaitlaw11.DssLays", spec := "dssLays", inPlace := ["internal/abi.NoEscape", "internal/bytealg.MakeNoZero"], unfollowed := true, recurses := true, apart := false, narrowed := true }
def DssLaysUptoSaid : Prop := dssLaysUptoRow.holds Try.pinned (OpenSpec.upto dssLaysSpec)

/-- 'plaitlaw11.DssTells', WHERE WHAT IT READS IS OF BULK AT MOST 1048576: true; the input reads as it did. -/
def dssTellsUptoRow : OpenClaim := { program := "ytdhkjhkgjfcolaa", sum := "0c6d5c79040783063e4f82f818a2019184b39f413e1fc89d771d4b57ffd2958a", func := "plait/plaitlaw11.DssTells", spec := "dssTells", inPlace := ["internal/abi.NoEscape", "internal/bytealg.MakeNoZero"], unfollowed := true, recurses := true, apart := false, narrowed := true }
def DssTellsUptoSaid : Prop := dssTellsUptoRow.holds Try.pinned (OpenSpec.upto dssTellsSpec)

/-- 'plaitlaw11.DssBack', WHERE WHAT IT READS IS OF BULK AT MOST 1048576: true; the input reads as it did. -/
def dssBackUptoRow : OpenClaim := { program := "ytdhkjhkgjfcolaa", sum := "0c6d5c79040783063e4f82f818a2019184b39f413e1fc89d771d4b57ffd2958a", func := "plait/plaitlaw11.DssBack", spec := "dssBack", inPlace := ["internal/abi.NoEscape", "internal/bytealg.MakeNoZero"], unfollowed := true, recurses := true, apart := false, narrowed := true }
def DssBackUptoSaid : Prop := dssBackUptoRow.holds Try.pinned (OpenSpec.upto dssBackSpec)

/-- 'plaitlaw11.DssPassed', WHERE WHAT IT READS IS OF BULK AT MOST 1048576: true; the input reads as it did. -/
def dssPassedUptoRow : OpenClaim := { program := "ytdhkjhkgjfcolaa", sum := "0c6d5c79040783063e4f82f818a2019184b39f413e1fc89d771d4b57ffd2958a", func := "plait/plaitlaw11.DssPassed", spec := "dssPassed", inPlace := ["internal/abi.NoEscape", "internal/bytealg.MakeNoZero"], unfollowed := true, recurses := true, apart := false, narrowed := true }
def DssPassedUptoSaid : Prop := dssPassedUptoRow.holds Try.pinned (OpenSpec.upto dssPassedSpec)

/-- 'plaitlaw11.DssSizes', WHERE WHAT IT READS IS OF BULK AT MOST 1048576: true; the input reads as it did. -/
def dssSizesUptoRow : OpenClaim := { program := "ytdhkjhkgjfcolaa", sum := "0c6d5c79040783063e4f82f818a2019184b39f413e1fc89d771d4b57ffd2958a", func := "plait/plaitlaw11.DssSizes", spec := "dssSizes", inPlace := ["internal/abi.NoEscape", "internal/bytealg.MakeNoZero"], unfollowed := true, recurses := true, apart := false, narrowed := true }
def DssSizesUptoSaid : Prop := dssSizesUptoRow.holds Try.pinned (OpenSpec.upto dssSizesSpec)

/-- 'plaitlaw11.DssKnown', WHERE WHAT IT READS IS OF BULK AT MOST 1048576: true; the input reads as it did. -/
def dssKnownUptoRow : OpenClaim := { program := "ytdhkjhkgjfcolaa", sum := "0c6d5c79040783063e4f82f818a2019184b39f413e1fc89d771d4b57ffd2958a", func := "plait/plaitlaw11.DssKnown", spec := "dssKnown", inPlace := ["internal/abi.NoEscape", "internal/bytealg.MakeNoZero"], unfollowed := true, recurses := true, apart := false, narrowed := true }
def DssKnownUptoSaid : Prop := dssKnownUptoRow.holds Try.pinned (OpenSpec.upto dssKnownSpec)

end Rows
end Go.Proofs.Ytdhkjhkgjfcolaa
