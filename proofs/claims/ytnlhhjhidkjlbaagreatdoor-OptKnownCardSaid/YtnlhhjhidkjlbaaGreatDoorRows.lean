/-
  NARROWER THAN 'FOR EVERY INPUT', by the rows' own cells (each row's printed sentence says how): OptLays: laid · OptReads: laid · OptAreas: laid · OptBack: laid · OptCanon: laid · OptPasses: laid · OptKnown: laid.
  DERIVED. THE GIVEN ROWS OF THIS SEAT. 7 by the template 'for every input the law returns true; each argument reads behind the call as it read before'; 0 by the template 'total and deterministic' (their statements: YtnlhhjhidkjlbaaGreatDoorTotals.lean).
  GIVEN WITH THE SEED: the statements are not yours to turn. If you find one false, say at which input.
  Laid BY PROGRAM, IN A SANDBOX (cutbox-rows.mjs): the forced cells as the released guide's own fill.sh prints them over the translation 14ea416a39efbc0a… (all of the seat's roots in one cut). By AI agents, Wed Nov 11 2026. No macro, syntax, notation, axiom, sorry.
-/
import Derived.Test.YtnlhhjhidkjlbaaGreatDoorChecked
import GoSem.Claim
import GoSem.ClaimJoined
import GoSem.ClaimMapViews
import Derived.JoinedTies
import Derived.KernelRfl
namespace Go.Proofs.YtnlhhjhidkjlbaaGreatDoor
/- THE CELL 'sum', in the pinned program and in every row, IS THE sha256 OF THE DUMP (.gsa) THAT YtnlhhjhidkjlbaaGreatDoorProg.lean LOADS. Nothing in Lean hashes anything: it is a label: what it is worth is what the hold of that sum in a sandbox is worth. -/
noncomputable def Tryz.pinned : Pinned := { name := "ytnlhhjhidkjlbaagreatdoor", sum := "14ea416a39efbc0a60aad0b904ce63cfc45d5a8b2205b884bb80428bda55173f", checked := Tryz.checked }
namespace Rows
def none {H : Type} : Left H := { results := [], args := [] }

/- WHAT THE LISTED PACKAGE-LEVEL VARIABLES READ AS WHEN THE CALL BEGINS. Each datum BY PROGRAM (the guide's laid-datum.mjs) off the statement by which the dump's own 'gosem.cut.vars' lays the variable. In a bare row this is a premise. The card (YtnlhhjhidkjlbaaGreatDoorCards.lean) ties it to the program's text. -/
def laid_errors_errorType {H : Type} : DataW H := .iface "internal/reflectlite.rtype" (.agg [.ptr (.lit (.string [101, 114, 114, 111, 114]))])
def laid_plait_join_sizes {H : Type} : DataW H := .agg [.agg [.lit (.int .i64 10), .lit (.int .i64 0)], .agg [.lit (.int .i64 14), .lit (.int .i64 8)], .agg [.lit (.int .i64 22), .lit (.int .i64 20)]]

/-- 'plaitlaw14.OptLays': WHATEVER THE INPUT: true; the input reads as it did. -/
def optLaysSpec : ChangeSpec := { name := "optLays", fn := fun _ => fun
  | [d1, d2] => { results := [.lit (.bool true)], args := [d1, d2] }
  | _ => none }
def optLaysRow : OpenClaim := { program := "ytnlhhjhidkjlbaagreatdoor", sum := "14ea416a39efbc0a60aad0b904ce63cfc45d5a8b2205b884bb80428bda55173f", func := "plait/plaitlaw14.OptLays", spec := "optLays", inPlace := ["internal/abi.NoEscape", "internal/bytealg.MakeNoZero", "internal/reflectlite.ValueOf", "(internal/reflectlite.Value).Type", "(internal/reflectlite.Value).IsNil", "internal/reflectlite.TypeOf", "(internal/reflectlite.Value).Elem", "(internal/reflectlite.Value).Set"], unfollowed := true, recurses := true, named := ["plait/join.sizes", "errors.errorType"], apart := false, laid := [("errors.errorType", laid_errors_errorType), ("plait/join.sizes", laid_plait_join_sizes)] }
def OptLaysSaid : Prop := optLaysRow.holds Tryz.pinned (OpenSpec.ofChange optLaysSpec)

/-- ITS FALSE NEIGHBOUR: 'it returns false'. Refute it at one input. -/
def optLaysWrong : ChangeSpec := { name := "optLays", fn := fun _ => fun
  | [d1, d2] => { results := [.lit (.bool false)], args := [d1, d2] }
  | _ => none }
def OptLaysWrongFalsely : Prop := optLaysRow.holds Tryz.pinned (OpenSpec.ofChange optLaysWrong)

/-- 'plaitlaw14.OptReads': WHATEVER THE INPUT: true; the input reads as it did. -/
def optReadsSpec : ChangeSpec := { name := "optReads", fn := fun _ => fun
  | [d1, d2, d3] => { results := [.lit (.bool true)], args := [d1, d2, d3] }
  | _ => none }
def optReadsRow : OpenClaim := { program := "ytnlhhjhidkjlbaagreatdoor", sum := "14ea416a39efbc0a60aad0b904ce63cfc45d5a8b2205b884bb80428bda55173f", func := "plait/plaitlaw14.OptReads", spec := "optReads", inPlace := ["internal/abi.NoEscape", "internal/bytealg.MakeNoZero", "internal/reflectlite.ValueOf", "(internal/reflectlite.Value).Type", "(internal/reflectlite.Value).IsNil", "internal/reflectlite.TypeOf", "(internal/reflectlite.Value).Elem", "(internal/reflectlite.Value).Set"], unfollowed := true, recurses := true, named := ["plait/join.sizes", "errors.errorType"], apart := false, laid := [("errors.errorType", laid_errors_errorType), ("plait/join.sizes", laid_plait_join_sizes)] }
def OptReadsSaid : Prop := optReadsRow.holds Tryz.pinned (OpenSpec.ofChange optReadsSpec)

/-- ITS FALSE NEIGHBOUR: 'it returns false'. Refute it at one input. -/
def optReadsWrong : ChangeSpec := { name := "optReads", fn := fun _ => fun
  | [d1, d2, d3] => { results := [.lit (.bool false)], args := [d1, d2, d3] }
  | _ => none }
def OptReadsWrongFalsely : Prop := optReadsRow.holds Tryz.pinned (OpenSpec.ofChange optReadsWrong)

/-- 'plaitlaw14.OptAreas': WHATEVER THE INPUT: true; the input reads as it did. -/
def optAreasSpec : ChangeSpec := { name := "optAreas", fn := fun _ => fun
  | [d1, d2, d3, d4] => { results := [.lit (.bool true)], args := [d1, d2, d3, d4] }
  | _ => none }
def optAreasRow : OpenClaim := { program := "ytnlhhjhidkjlbaagreatdoor", sum := "14ea416a39efbc0a60aad0b904ce63cfc45d5a8b2205b884bb80428bda55173f", func := "plait/plaitlaw14.OptAreas", spec := "optAreas", inPlace := ["internal/abi.NoEscape", "internal/bytealg.MakeNoZero", "internal/reflectlite.ValueOf", "(internal/reflectlite.Value).Type", "(internal/reflectlite.Value).IsNil", "internal/reflectlite.TypeOf", "(internal/reflectlite.Value).Elem", "(internal/reflectlite.Value).Set"], unfollowed := true, recurses := true, named := ["plait/join.sizes", "errors.errorType"], apart := false, laid := [("errors.errorType", laid_errors_errorType), ("plait/join.sizes", laid_plait_join_sizes)] }
def OptAreasSaid : Prop := optAreasRow.holds Tryz.pinned (OpenSpec.ofChange optAreasSpec)

/-- ITS FALSE NEIGHBOUR: 'it returns false'. Refute it at one input. -/
def optAreasWrong : ChangeSpec := { name := "optAreas", fn := fun _ => fun
  | [d1, d2, d3, d4] => { results := [.lit (.bool false)], args := [d1, d2, d3, d4] }
  | _ => none }
def OptAreasWrongFalsely : Prop := optAreasRow.holds Tryz.pinned (OpenSpec.ofChange optAreasWrong)

/-- 'plaitlaw14.OptBack': WHATEVER THE INPUT: true; the input reads as it did. -/
def optBackSpec : ChangeSpec := { name := "optBack", fn := fun _ => fun
  | [d1, d2, d3] => { results := [.lit (.bool true)], args := [d1, d2, d3] }
  | _ => none }
def optBackRow : OpenClaim := { program := "ytnlhhjhidkjlbaagreatdoor", sum := "14ea416a39efbc0a60aad0b904ce63cfc45d5a8b2205b884bb80428bda55173f", func := "plait/plaitlaw14.OptBack", spec := "optBack", inPlace := ["internal/abi.NoEscape", "internal/bytealg.MakeNoZero", "internal/reflectlite.ValueOf", "(internal/reflectlite.Value).Type", "(internal/reflectlite.Value).IsNil", "internal/reflectlite.TypeOf", "(internal/reflectlite.Value).Elem", "(internal/reflectlite.Value).Set"], unfollowed := true, recurses := true, named := ["plait/join.sizes", "errors.errorType"], apart := false, laid := [("errors.errorType", laid_errors_errorType), ("plait/join.sizes", laid_plait_join_sizes)] }
def OptBackSaid : Prop := optBackRow.holds Tryz.pinned (OpenSpec.ofChange optBackSpec)

/-- ITS FALSE NEIGHBOUR: 'it returns false'. Refute it at one input. -/
def optBackWrong : ChangeSpec := { name := "optBack", fn := fun _ => fun
  | [d1, d2, d3] => { results := [.lit (.bool false)], args := [d1, d2, d3] }
  | _ => none }
def OptBackWrongFalsely : Prop := optBackRow.holds Tryz.pinned (OpenSpec.ofChange optBackWrong)

/-- 'plaitlaw14.OptCanon': WHATEVER THE INPUT: true; the input reads as it did. -/
def optCanonSpec : ChangeSpec := { name := "optCanon", fn := fun _ => fun
  | [d1, d2, d3] => { results := [.lit (.bool true)], args := [d1, d2, d3] }
  | _ => none }
def optCanonRow : OpenClaim := { program := "ytnlhhjhidkjlbaagreatdoor", sum := "14ea416a39efbc0a60aad0b904ce63cfc45d5a8b2205b884bb80428bda55173f", func := "plait/plaitlaw14.OptCanon", spec := "optCanon", inPlace := ["internal/abi.NoEscape", "internal/bytealg.MakeNoZero", "internal/reflectlite.ValueOf", "(internal/reflectlite.Value).Type", "(internal/reflectlite.Value).IsNil", "internal/reflectlite.TypeOf", "(internal/reflectlite.Value).Elem", "(internal/reflectlite.Value).Set"], unfollowed := true, recurses := true, named := ["plait/join.sizes", "errors.errorType"], apart := false, laid := [("errors.errorType", laid_errors_errorType), ("plait/join.sizes", laid_plait_join_sizes)] }
def OptCanonSaid : Prop := optCanonRow.holds Tryz.pinned (OpenSpec.ofChange optCanonSpec)

/-- ITS FALSE NEIGHBOUR: 'it returns false'. Refute it at one input. -/
def optCanonWrong : ChangeSpec := { name := "optCanon", fn := fun _ => fun
  | [d1, d2, d3] => { results := [.lit (.bool false)], args := [d1, d2, d3] }
  | _ => none }
def OptCanonWrongFalsely : Prop := optCanonRow.holds Tryz.pinned (OpenSpec.ofChange optCanonWrong)

/-- 'plaitlaw14.OptPasses': WHATEVER THE INPUT: true; the input reads as it did. -/
def optPassesSpec : ChangeSpec := { name := "optPasses", fn := fun _ => fun
  | [d1, d2, d3, d4] => { results := [.lit (.bool true)], args := [d1, d2, d3, d4] }
  | _ => none }
def optPassesRow : OpenClaim := { program := "ytnlhhjhidkjlbaagreatdoor", sum := "14ea416a39efbc0a60aad0b904ce63cfc45d5a8b2205b884bb80428bda55173f", func := "plait/plaitlaw14.OptPasses", spec := "optPasses", inPlace := ["internal/abi.NoEscape", "internal/bytealg.MakeNoZero", "internal/reflectlite.ValueOf", "(internal/reflectlite.Value).Type", "(internal/reflectlite.Value).IsNil", "internal/reflectlite.TypeOf", "(internal/reflectlite.Value).Elem", "(internal/reflectlite.Value).Set"], unfollowed := true, recurses := true, named := ["plait/join.sizes", "errors.errorType"], apart := false, laid := [("errors.errorType", laid_errors_errorType), ("plait/join.sizes", laid_plait_join_sizes)] }
def OptPassesSaid : Prop := optPassesRow.holds Tryz.pinned (OpenSpec.ofChange optPassesSpec)

/-- ITS FALSE NEIGHBOUR: 'it returns false'. Refute it at one input. -/
def optPassesWrong : ChangeSpec := { name := "optPasses", fn := fun _ => fun
  | [d1, d2, d3, d4] => { results := [.lit (.bool false)], args := [d1, d2, d3, d4] }
  | _ => none }
def OptPassesWrongFalsely : Prop := optPassesRow.holds Tryz.pinned (OpenSpec.ofChange optPassesWrong)

/-- 'plaitlaw14.OptKnown': WHATEVER THE INPUT: true; the input reads as it did. -/
def optKnownSpec : ChangeSpec := { name := "optKnown", fn := fun _ => fun
  | [] => { results := [.lit (.bool true)], args := [] }
  | _ => none }
def optKnownRow : OpenClaim := { program := "ytnlhhjhidkjlbaagreatdoor", sum := "14ea416a39efbc0a60aad0b904ce63cfc45d5a8b2205b884bb80428bda55173f", func := "plait/plaitlaw14.OptKnown", spec := "optKnown", inPlace := ["internal/abi.NoEscape", "internal/bytealg.MakeNoZero", "internal/reflectlite.ValueOf", "(internal/reflectlite.Value).Type", "(internal/reflectlite.Value).IsNil", "internal/reflectlite.TypeOf", "(internal/reflectlite.Value).Elem", "(internal/reflectlite.Value).Set"], unfollowed := true, recurses := true, named := ["plait/join.sizes", "errors.errorType"], apart := false, laid := [("errors.errorType", laid_errors_errorType), ("plait/join.sizes", laid_plait_join_sizes)] }
def OptKnownSaid : Prop := optKnownRow.holds Tryz.pinned (OpenSpec.ofChange optKnownSpec)

/-- ITS FALSE NEIGHBOUR: 'it returns false'. Refute it at one input. -/
def optKnownWrong : ChangeSpec := { name := "optKnown", fn := fun _ => fun
  | [] => { results := [.lit (.bool false)], args := [] }
  | _ => none }
def OptKnownWrongFalsely : Prop := optKnownRow.holds Tryz.pinned (OpenSpec.ofChange optKnownWrong)

/- THE SECOND FORM. 'bulk': how many values and letters a reading holds, each counted each time it is reached (what is shared counts as often as it is met; a slice's spare places count too). A statement '..UptoSaid' is the law's where the arguments, and the package variables that the reading takes, are together of bulk at most 1048576: NARROWER than '..Said'. Prove '..Said' where nothing that the law and all that it calls make is longer than what came in: it says more and counts as full. Else prove '..UptoSaid'. A law counts once. -/
mutual
def uptoBulk {H : Type} : DataW H → Nat
  | .lit (.string bytes) => bytes.length + 1
  | .lit _ => 1
  | .nil => 1
  | .ptr d => uptoBulk d + 1
  | .slice elems spare => uptoBulkAll elems + uptoBulkAll spare + 1
  | .agg parts => uptoBulkAll parts + 1
  | .iface _ d => uptoBulk d + 1
  | .map entries => uptoBulkEntries entries + 1
  | .held _ => 1
def uptoBulkAll {H : Type} : List (DataW H) → Nat
  | [] => 0
  | d :: r => uptoBulk d + uptoBulkAll r
def uptoBulkEntries {H : Type} : List (Lit × DataW H) → Nat
  | [] => 0
  | x :: r => uptoBulkEntry x + uptoBulkEntries r
def uptoBulkEntry {H : Type} : Lit × DataW H → Nat
  | (.string bytes, d) => bytes.length + uptoBulk d + 1
  | (_, d) => uptoBulk d + 1
 end
def uptoSmall : (H : Type) → List (DataW H) → Bool := fun _ ds => decide (uptoBulkAll ds ≤ 1048576)
def OpenSpec.upto (s : _root_.Go.ChangeSpec) : _root_.Go.OpenSpec := { _root_.Go.OpenSpec.ofChange s with cond := some uptoSmall }

/-- 'plaitlaw14.OptLays', WHERE WHAT IT READS IS OF BULK AT MOST 1048576: true; the input reads as it did. -/
def optLaysUptoRow : OpenClaim := { program := "ytnlhhjhidkjlbaagreatdoor", sum := "14ea416a39efbc0a60aad0b904ce63cfc45d5a8b2205b884bb80428bda55173f", func := "plait/plaitlaw14.OptLays", spec := "optLays", inPlace := ["internal/abi.NoEscape", "internal/bytealg.MakeNoZero", "internal/reflectlite.ValueOf", "(internal/reflectlite.Value).Type", "(internal/reflectlite.Value).IsNil", "internal/reflectlite.TypeOf", "(internal/reflectlite.Value).Elem", "(internal/reflectlite.Value).Set"], unfollowed := true, recurses := true, named := ["plait/join.sizes", "errors.errorType"], apart := false, laid := [("errors.errorType", laid_errors_errorType), ("plait/join.sizes", laid_plait_join_sizes)], narrowed := true }
def OptLaysUptoSaid : Prop := optLaysUptoRow.holds Tryz.pinned (OpenSpec.upto optLaysSpec)

/-- 'plaitlaw14.OptReads', WHERE WHAT IT READS IS OF BULK AT MOST 1048576: true; the input reads as it did. -/
def optReadsUptoRow : OpenClaim := { program := "ytnlhhjhidkjlbaagreatdoor", sum := "14ea416a39efbc0a60aad0b904ce63cfc45d5a8b2205b884bb80428bda55173f", func := "plait/plaitlaw14.OptReads", spec := "optReads", inPlace := ["internal/abi.NoEscape", "internal/bytealg.MakeNoZero", "internal/reflectlite.ValueOf", "(internal/reflectlite.Value).Type", "(internal/reflectlite.Value).IsNil", "internal/reflectlite.TypeOf", "(internal/reflectlite.Value).Elem", "(internal/reflectlite.Value).Set"], unfollowed := true, recurses := true, named := ["plait/join.sizes", "errors.errorType"], apart := false, laid := [("errors.errorType", laid_errors_errorType), ("plait/join.sizes", laid_plait_join_sizes)], narrowed := true }
def OptReadsUptoSaid : Prop := optReadsUptoRow.holds Tryz.pinned (OpenSpec.upto optReadsSpec)

/-- 'plaitlaw14.OptAreas', WHERE WHAT IT READS IS OF BULK AT MOST 1048576: true; the input reads as it did. -/
def optAreasUptoRow : OpenClaim := { program := "ytnlhhjhidkjlbaagreatdoor", sum := "14ea416a39efbc0a60aad0b904ce63cfc45d5a8b2205b884bb80428bda55173f", func := "plait/plaitlaw14.OptAreas", spec := "optAreas", inPlace := ["internal/abi.NoEscape", "internal/bytealg.MakeNoZero", "internal/reflectlite.ValueOf", "(internal/reflectlite.Value).Type", "(internal/reflectlite.Value).IsNil", "internal/reflectlite.TypeOf", "(internal/reflectlite.Value).Elem", "(internal/reflectlite.Value).Set"], unfollowed := true, recurses := true, named := ["plait/join.sizes", "errors.errorType"], apart := false, laid := [("errors.errorType", laid_errors_errorType), ("plait/join.sizes", laid_plait_join_sizes)], narrowed := true }
def OptAreasUptoSaid : Prop := optAreasUptoRow.holds Tryz.pinned (OpenSpec.upto optAreasSpec)

/-- 'plaitlaw14.OptBack', WHERE WHAT IT READS IS OF BULK AT MOST 1048576: true; the input reads as it did. -/
def optBackUptoRow : OpenClaim := { program := "ytnlhhjhidkjlbaagreatdoor", sum := "14ea416a39efbc0a60aad0b904ce63cfc45d5a8b2205b884bb80428bda55173f", func := "plait/plaitlaw14.OptBack", spec := "optBack", inPlace := ["internal/abi.NoEscape", "internal/bytealg.MakeNoZero", "internal/reflectlite.ValueOf", "(internal/reflectlite.Value).Type", "(internal/reflectlite.Value).IsNil", "internal/reflectlite.TypeOf", "(internal/reflectlite.Value).Elem", "(internal/reflectlite.Value).Set"], unfollowed := true, recurses := true, named := ["plait/join.sizes", "errors.errorType"], apart := false, laid := [("errors.errorType", laid_errors_errorType), ("plait/join.sizes", laid_plait_join_sizes)], narrowed := true }
def OptBackUptoSaid : Prop := optBackUptoRow.holds Tryz.pinned (OpenSpec.upto optBackSpec)

/-- 'plaitlaw14.OptCanon', WHERE WHAT IT READS IS OF BULK AT MOST 1048576: true; the input reads as it did. -/
def optCanonUptoRow : OpenClaim := { program := "ytnlhhjhidkjlbaagreatdoor", sum := "14ea416a39efbc0a60aad0b904ce63cfc45d5a8b2205b884bb80428bda55173f", func := "plait/plaitlaw14.OptCanon", spec := "optCanon", inPlace := ["internal/abi.NoEscape", "internal/bytealg.MakeNoZero", "internal/reflectlite.ValueOf", "(internal/reflectlite.Value).Type", "(internal/reflectlite.Value).IsNil", "internal/reflectlite.TypeOf", "(internal/reflectlite.Value).Elem", "(internal/reflectlite.Value).Set"], unfollowed := true, recurses := true, named := ["plait/join.sizes", "errors.errorType"], apart := false, laid := [("errors.errorType", laid_errors_errorType), ("plait/join.sizes", laid_plait_join_sizes)], narrowed := true }
def OptCanonUptoSaid : Prop := optCanonUptoRow.holds Tryz.pinned (OpenSpec.upto optCanonSpec)

/-- 'plaitlaw14.OptPasses', WHERE WHAT IT READS IS OF BULK AT MOST 1048576: true; the input reads as it did. -/
def optPassesUptoRow : OpenClaim := { program := "ytnlhhjhidkjlbaagreatdoor", sum := "14ea416a39efbc0a60aad0b904ce63cfc45d5a8b2205b884bb80428bda55173f", func := "plait/plaitlaw14.OptPasses", spec := "optPasses", inPlace := ["internal/abi.NoEscape", "internal/bytealg.MakeNoZero", "internal/reflectlite.ValueOf", "(internal/reflectlite.Value).Type", "(internal/reflectlite.Value).IsNil", "internal/reflectlite.TypeOf", "(internal/reflectlite.Value).Elem", "(internal/reflectlite.Value).Set"], unfollowed := true, recurses := true, named := ["plait/join.sizes", "errors.errorType"], apart := false, laid := [("errors.errorType", laid_errors_errorType), ("plait/join.sizes", laid_plait_join_sizes)], narrowed := true }
def OptPassesUptoSaid : Prop := optPassesUptoRow.holds Tryz.pinned (OpenSpec.upto optPassesSpec)

/-- 'plaitlaw14.OptKnown', WHERE WHAT IT READS IS OF BULK AT MOST 1048576: true; the input reads as it did. -/
def optKnownUptoRow : OpenClaim := { program := "ytnlhhjhidkjlbaagreatdoor", sum := "14ea416a39efbc0a60aad0b904ce63cfc45d5a8b2205b884bb80428bda55173f", func := "plait/plaitlaw14.OptKnown", spec := "optKnown", inPlace := ["internal/abi.NoEscape", "internal/bytealg.MakeNoZero", "internal/reflectlite.ValueOf", "(internal/reflectlite.Value).Type", "(internal/reflectlite.Value).IsNil", "internal/reflectlite.TypeOf", "(internal/reflectlite.Value).Elem", "(internal/reflectlite.Value).Set"], unfollowed := true, recurses := true, named := ["plait/join.sizes", "errors.errorType"], apart := false, laid := [("errors.errorType", laid_errors_errorType), ("plait/join.sizes", laid_plait_join_sizes)], narrowed := true }
def OptKnownUptoSaid : Prop := optKnownUptoRow.holds Tryz.pinned (OpenSpec.upto optKnownSpec)

end Rows
end Go.Proofs.YtnlhhjhidkjlbaaGreatDoor
