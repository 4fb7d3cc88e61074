/-
  NARROWER THAN 'FOR EVERY INPUT', by the rows' own cells (each row's printed sentence says how): OptAreas: laid · PackTells: laid · PackFits: laid · PackMost: laid · PackKnown: laid.
  DERIVED. THE GIVEN ROWS OF THIS SEAT. 5 by the template 'for every input the law returns true; each argument reads behind the call as it read before'; 0 by the template 'total and deterministic' (their statements: YtklakghlliihkaaGreatDoorTotals.lean).
  GIVEN WITH THE SEED: the statements are not yours to turn. If you find one false, say at which input.
  Laid BY PROGRAM, IN A SANDBOX (cutbox-rows.mjs): the forced cells as the released guide's own fill.sh prints them over the translation f0937c7675ef3512… (all of the seat's roots in one cut). By AI agents, Wed Nov 11 2026. No macro, syntax, notation, axiom, sorry.
-/
import Derived.Test.YtklakghlliihkaaGreatDoorChecked
import GoSem.Claim
import GoSem.ClaimJoined
import GoSem.ClaimMapViews
import Derived.JoinedTies
import Derived.KernelRfl
namespace Go.Proofs.YtklakghlliihkaaGreatDoor
/- THE CELL 'sum', in the pinned program and in every row, IS THE sha256 OF THE DUMP (.gsa) THAT YtklakghlliihkaaGreatDoorProg.lean LOADS. Nothing in Lean hashes anything: it is a label: what it is worth is what the hold of that sum in a sandbox is worth. -/
noncomputable def Tryz.pinned : Pinned := { name := "ytklakghlliihkaagreatdoor", sum := "f0937c7675ef35125a688da411cd82ee6dcbb47490a42fe9ed3cc52ed0846090", checked := Tryz.checked }
namespace Rows
def none {H : Type} : Left H := { results := [], args := [] }

/- WHAT THE LISTED PACKAGE-LEVEL VARIABLES READ AS WHEN THE CALL BEGINS. Each datum BY PROGRAM (the guide's laid-datum.mjs) off the statement by which the dump's own 'gosem.cut.vars' lays the variable. In a bare row this is a premise. The card (YtklakghlliihkaaGreatDoorCards.lean) ties it to the program's text. -/
def laid_errors_errorType {H : Type} : DataW H := .iface "internal/reflectlite.rtype" (.agg [.ptr (.lit (.string [101, 114, 114, 111, 114]))])
def laid_plait_join_sizes {H : Type} : DataW H := .agg [.agg [.lit (.int .i64 10), .lit (.int .i64 0)], .agg [.lit (.int .i64 14), .lit (.int .i64 8)], .agg [.lit (.int .i64 22), .lit (.int .i64 20)]]

/-- 'plaitlaw14.OptAreas': WHATEVER THE INPUT: true; the input reads as it did. -/
def optAreasSpec : ChangeSpec := { name := "optAreas", fn := fun _ => fun
  | [d1, d2, d3, d4] => { results := [.lit (.bool true)], args := [d1, d2, d3, d4] }
  | _ => none }
def optAreasRow : OpenClaim := { program := "ytklakghlliihkaagreatdoor", sum := "f0937c7675ef35125a688da411cd82ee6dcbb47490a42fe9ed3cc52ed0846090", func := "plait/plaitlaw14.OptAreas", spec := "optAreas", inPlace := ["internal/abi.NoEscape", "internal/bytealg.MakeNoZero", "internal/reflectlite.ValueOf", "(internal/reflectlite.Value).Type", "(internal/reflectlite.Value).IsNil", "internal/reflectlite.TypeOf", "(internal/reflectlite.Value).Elem", "(internal/reflectlite.Value).Set"], unfollowed := true, recurses := true, named := ["plait/join.sizes", "errors.errorType"], apart := false, laid := [("errors.errorType", laid_errors_errorType), ("plait/join.sizes", laid_plait_join_sizes)] }
def OptAreasSaid : Prop := optAreasRow.holds Tryz.pinned (OpenSpec.ofChange optAreasSpec)

/-- ITS FALSE NEIGHBOUR: 'it returns false'. Refute it at one input. -/
def optAreasWrong : ChangeSpec := { name := "optAreas", fn := fun _ => fun
  | [d1, d2, d3, d4] => { results := [.lit (.bool false)], args := [d1, d2, d3, d4] }
  | _ => none }
def OptAreasWrongFalsely : Prop := optAreasRow.holds Tryz.pinned (OpenSpec.ofChange optAreasWrong)

/-- 'plaitlaw15.PackTells': WHATEVER THE INPUT: true; the input reads as it did. -/
def packTellsSpec : ChangeSpec := { name := "packTells", fn := fun _ => fun
  | [d1, d2] => { results := [.lit (.bool true)], args := [d1, d2] }
  | _ => none }
def packTellsRow : OpenClaim := { program := "ytklakghlliihkaagreatdoor", sum := "f0937c7675ef35125a688da411cd82ee6dcbb47490a42fe9ed3cc52ed0846090", func := "plait/plaitlaw15.PackTells", spec := "packTells", inPlace := ["internal/abi.NoEscape", "internal/bytealg.MakeNoZero", "internal/reflectlite.ValueOf", "(internal/reflectlite.Value).Type", "(internal/reflectlite.Value).IsNil", "internal/reflectlite.TypeOf", "(internal/reflectlite.Value).Elem", "(internal/reflectlite.Value).Set"], unfollowed := true, recurses := true, named := ["plait/join.sizes", "errors.errorType"], apart := false, laid := [("errors.errorType", laid_errors_errorType), ("plait/join.sizes", laid_plait_join_sizes)] }
def PackTellsSaid : Prop := packTellsRow.holds Tryz.pinned (OpenSpec.ofChange packTellsSpec)

/-- ITS FALSE NEIGHBOUR: 'it returns false'. Refute it at one input. -/
def packTellsWrong : ChangeSpec := { name := "packTells", fn := fun _ => fun
  | [d1, d2] => { results := [.lit (.bool false)], args := [d1, d2] }
  | _ => none }
def PackTellsWrongFalsely : Prop := packTellsRow.holds Tryz.pinned (OpenSpec.ofChange packTellsWrong)

/-- 'plaitlaw15.PackFits': WHATEVER THE INPUT: true; the input reads as it did. -/
def packFitsSpec : ChangeSpec := { name := "packFits", fn := fun _ => fun
  | [d1, d2] => { results := [.lit (.bool true)], args := [d1, d2] }
  | _ => none }
def packFitsRow : OpenClaim := { program := "ytklakghlliihkaagreatdoor", sum := "f0937c7675ef35125a688da411cd82ee6dcbb47490a42fe9ed3cc52ed0846090", func := "plait/plaitlaw15.PackFits", spec := "packFits", inPlace := ["internal/abi.NoEscape", "internal/bytealg.MakeNoZero", "internal/reflectlite.ValueOf", "(internal/reflectlite.Value).Type", "(internal/reflectlite.Value).IsNil", "internal/reflectlite.TypeOf", "(internal/reflectlite.Value).Elem", "(internal/reflectlite.Value).Set"], unfollowed := true, recurses := true, named := ["plait/join.sizes", "errors.errorType"], apart := false, laid := [("errors.errorType", laid_errors_errorType), ("plait/join.sizes", laid_plait_join_sizes)] }
def PackFitsSaid : Prop := packFitsRow.holds Tryz.pinned (OpenSpec.ofChange packFitsSpec)

/-- ITS FALSE NEIGHBOUR: 'it returns false'. Refute it at one input. -/
def packFitsWrong : ChangeSpec := { name := "packFits", fn := fun _ => fun
  | [d1, d2] => { results := [.lit (.bool false)], args := [d1, d2] }
  | _ => none }
def PackFitsWrongFalsely : Prop := packFitsRow.holds Tryz.pinned (OpenSpec.ofChange packFitsWrong)

/-- 'plaitlaw15.PackMost': WHATEVER THE INPUT: true; the input reads as it did. -/
def packMostSpec : ChangeSpec := { name := "packMost", fn := fun _ => fun
  | [d1, d2] => { results := [.lit (.bool true)], args := [d1, d2] }
  | _ => none }
def packMostRow : OpenClaim := { program := "ytklakghlliihkaagreatdoor", sum := "f0937c7675ef35125a688da411cd82ee6dcbb47490a42fe9ed3cc52ed0846090", func := "plait/plaitlaw15.PackMost", spec := "packMost", inPlace := ["internal/abi.NoEscape", "internal/bytealg.MakeNoZero", "internal/reflectlite.ValueOf", "(internal/reflectlite.Value).Type", "(internal/reflectlite.Value).IsNil", "internal/reflectlite.TypeOf", "(internal/reflectlite.Value).Elem", "(internal/reflectlite.Value).Set"], unfollowed := true, recurses := true, named := ["plait/join.sizes", "errors.errorType"], apart := false, laid := [("errors.errorType", laid_errors_errorType), ("plait/join.sizes", laid_plait_join_sizes)] }
def PackMostSaid : Prop := packMostRow.holds Tryz.pinned (OpenSpec.ofChange packMostSpec)

/-- ITS FALSE NEIGHBOUR: 'it returns false'. Refute it at one input. -/
def packMostWrong : ChangeSpec := { name := "packMost", fn := fun _ => fun
  | [d1, d2] => { results := [.lit (.bool false)], args := [d1, d2] }
  | _ => none }
def PackMostWrongFalsely : Prop := packMostRow.holds Tryz.pinned (OpenSpec.ofChange packMostWrong)

/-- 'plaitlaw15.PackKnown': WHATEVER THE INPUT: true; the input reads as it did. -/
def packKnownSpec : ChangeSpec := { name := "packKnown", fn := fun _ => fun
  | [] => { results := [.lit (.bool true)], args := [] }
  | _ => none }
def packKnownRow : OpenClaim := { program := "ytklakghlliihkaagreatdoor", sum := "f0937c7675ef35125a688da411cd82ee6dcbb47490a42fe9ed3cc52ed0846090", func := "plait/plaitlaw15.PackKnown", spec := "packKnown", inPlace := ["internal/abi.NoEscape", "internal/bytealg.MakeNoZero", "internal/reflectlite.ValueOf", "(internal/reflectlite.Value).Type", "(internal/reflectlite.Value).IsNil", "internal/reflectlite.TypeOf", "(internal/reflectlite.Value).Elem", "(internal/reflectlite.Value).Set"], unfollowed := true, recurses := true, named := ["plait/join.sizes", "errors.errorType"], apart := false, laid := [("errors.errorType", laid_errors_errorType), ("plait/join.sizes", laid_plait_join_sizes)] }
def PackKnownSaid : Prop := packKnownRow.holds Tryz.pinned (OpenSpec.ofChange packKnownSpec)

/-- ITS FALSE NEIGHBOUR: 'it returns false'. Refute it at one input. -/
def packKnownWrong : ChangeSpec := { name := "packKnown", fn := fun _ => fun
  | [] => { results := [.lit (.bool false)], args := [] }
  | _ => none }
def PackKnownWrongFalsely : Prop := packKnownRow.holds Tryz.pinned (OpenSpec.ofChange packKnownWrong)

/- THE SECOND FORM. 'bulk': how many values and letters a reading holds, each counted each time it is reached (what is shared counts as often as it is met; a slice's spare places count too). A statement '..UptoSaid' is the law's where the arguments, and the package variables that the reading takes, are together of bulk at most 1048576: NARROWER than '..Said'. Prove '..Said' where nothing that the law and all that it calls make is longer than what came in: it says more and counts as full. Else prove '..UptoSaid'. A law counts once. -/
mutual
def uptoBulk {H : Type} : DataW H → Nat
  | .lit (.string bytes) => bytes.length + 1
  | .lit _ => 1
  | .nil => 1
  | .ptr d => uptoBulk d + 1
  | .slice elems spare => uptoBulkAll elems + uptoBulkAll spare + 1
  | .agg parts => uptoBulkAll parts + 1
  | .iface _ d => uptoBulk d + 1
  | .map entries => uptoBulkEntries entries + 1
  | .held _ => 1
def uptoBulkAll {H : Type} : List (DataW H) → Nat
  | [] => 0
  | d :: r => uptoBulk d + uptoBulkAll r
def uptoBulkEntries {H : Type} : List (Lit × DataW H) → Nat
  | [] => 0
  | x :: r => uptoBulkEntry x + uptoBulkEntries r
def uptoBulkEntry {H : Type} : Lit × DataW H → Nat
  | (.string bytes, d) => bytes.length + uptoBulk d + 1
  | (_, d) => uptoBulk d + 1
 end
def uptoSmall : (H : Type) → List (DataW H) → Bool := fun _ ds => decide (uptoBulkAll ds ≤ 1048576)
def OpenSpec.upto (s : _root_.Go.ChangeSpec) : _root_.Go.OpenSpec := { _root_.Go.OpenSpec.ofChange s with cond := some uptoSmall }

/-- 'plaitlaw14.OptAreas', WHERE WHAT IT READS IS OF BULK AT MOST 1048576: true; the input reads as it did. -/
def optAreasUptoRow : OpenClaim := { program := "ytklakghlliihkaagreatdoor", sum := "f0937c7675ef35125a688da411cd82ee6dcbb47490a42fe9ed3cc52ed0846090", func := "plait/plaitlaw14.OptAreas", spec := "optAreas", inPlace := ["internal/abi.NoEscape", "internal/bytealg.MakeNoZero", "internal/reflectlite.ValueOf", "(internal/reflectlite.Value).Type", "(internal/reflectlite.Value).IsNil", "internal/reflectlite.TypeOf", "(internal/reflectlite.Value).Elem", "(internal/reflectlite.Value).Set"], unfollowed := true, recurses := true, named := ["plait/join.sizes", "errors.errorType"], apart := false, laid := [("errors.errorType", laid_errors_errorType), ("plait/join.sizes", laid_plait_join_sizes)], narrowed := true }
def OptAreasUptoSaid : Prop := optAreasUptoRow.holds Tryz.pinned (OpenSpec.upto optAreasSpec)

/-- 'plaitlaw15.PackTells', WHERE WHAT IT READS IS OF BULK AT MOST 1048576: true; the input reads as it did. -/
def packTellsUptoRow : OpenClaim := { program := "ytklakghlliihkaagreatdoor", sum := "f0937c7675ef35125a688da411cd82ee6dcbb47490a42fe9ed3cc52ed0846090", func := "plait/plaitlaw15.PackTells", spec := "packTells", inPlace := ["internal/abi.NoEscape", "internal/bytealg.MakeNoZero", "internal/reflectlite.ValueOf", "(internal/reflectlite.Value).Type", "(internal/reflectlite.Value).IsNil", "internal/reflectlite.TypeOf", "(internal/reflectlite.Value).Elem", "(internal/reflectlite.Value).Set"], unfollowed := true, recurses := true, named := ["plait/join.sizes", "errors.errorType"], apart := false, laid := [("errors.errorType", laid_errors_errorType), ("plait/join.sizes", laid_plait_join_sizes)], narrowed := true }
def PackTellsUptoSaid : Prop := packTellsUptoRow.holds Tryz.pinned (OpenSpec.upto packTellsSpec)

/-- 'plaitlaw15.PackFits', WHERE WHAT IT READS IS OF BULK AT MOST 1048576: true; the input reads as it did. -/
def packFitsUptoRow : OpenClaim := { program := "ytklakghlliihkaagreatdoor", sum := "f0937c7675ef35125a688da411cd82ee6dcbb47490a42fe9ed3cc52ed0846090", func := "plait/plaitlaw15.PackFits", spec := "packFits", inPlace := ["internal/abi.NoEscape", "internal/bytealg.MakeNoZero", "internal/reflectlite.ValueOf", "(internal/reflectlite.Value).Type", "(internal/reflectlite.Value).IsNil", "internal/reflectlite.TypeOf", "(internal/reflectlite.Value).Elem", "(internal/reflectlite.Value).Set"], unfollowed := true, recurses := true, named := ["plait/join.sizes", "errors.errorType"], apart := false, laid := [("errors.errorType", laid_errors_errorType), ("plait/join.sizes", laid_plait_join_sizes)], narrowed := true }
def PackFitsUptoSaid : Prop := packFitsUptoRow.holds Tryz.pinned (OpenSpec.upto packFitsSpec)

/-- 'plaitlaw15.PackMost', WHERE WHAT IT READS IS OF BULK AT MOST 1048576: true; the input reads as it did. -/
def packMostUptoRow : OpenClaim := { program := "ytklakghlliihkaagreatdoor", sum := "f0937c7675ef35125a688da411cd82ee6dcbb47490a42fe9ed3cc52ed0846090", func := "plait/plaitlaw15.PackMost", spec := "packMost", inPlace := ["internal/abi.NoEscape", "internal/bytealg.MakeNoZero", "internal/reflectlite.ValueOf", "(internal/reflectlite.Value).Type", "(internal/reflectlite.Value).IsNil", "internal/reflectlite.TypeOf", "(internal/reflectlite.Value).Elem", "(internal/reflectlite.Value).Set"], unfollowed := true, recurses := true, named := ["plait/join.sizes", "errors.errorType"], apart := false, laid := [("errors.errorType", laid_errors_errorType), ("plait/join.sizes", laid_plait_join_sizes)], narrowed := true }
def PackMostUptoSaid : Prop := packMostUptoRow.holds Tryz.pinned (OpenSpec.upto packMostSpec)

/-- 'plaitlaw15.PackKnown', WHERE WHAT IT READS IS OF BULK AT MOST 1048576: true; the input reads as it did. -/
def packKnownUptoRow : OpenClaim := { program := "ytklakghlliihkaagreatdoor", sum := "f0937c7675ef35125a688da411cd82ee6dcbb47490a42fe9ed3cc52ed0846090", func := "plait/plaitlaw15.PackKnown", spec := "packKnown", inPlace := ["internal/abi.NoEscape", "internal/bytealg.MakeNoZero", "internal/reflectlite.ValueOf", "(internal/reflectlite.Value).Type", "(internal/reflectlite.Value).IsNil", "internal/reflectlite.TypeOf", "(internal/reflectlite.Value).Elem", "(internal/reflectlite.Value).Set"], unfollowed := true, recurses := true, named := ["plait/join.sizes", "errors.errorType"], apart := false, laid := [("errors.errorType", laid_errors_errorType), ("plait/join.sizes", laid_plait_join_sizes)], narrowed := true }
def PackKnownUptoSaid : Prop := packKnownUptoRow.holds Tryz.pinned (OpenSpec.upto packKnownSpec)

end Rows
end Go.Proofs.YtklakghlliihkaaGreatDoor
