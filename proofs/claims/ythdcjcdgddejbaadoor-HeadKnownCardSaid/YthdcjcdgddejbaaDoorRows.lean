/-
  NARROWER THAN 'FOR EVERY INPUT', by the rows' own cells (each row's printed sentence says how): HeadLays: laid · HeadTells: laid · HeadBack: laid · HeadByte: laid · HeadKnown: laid.
  DERIVED. THE GIVEN ROWS OF THIS SEAT. 5 by the template 'for every input the law returns true; each argument reads behind the call as it read before'; 0 by the template 'total and deterministic' (their statements: YthdcjcdgddejbaaDoorTotals.lean).
  GIVEN WITH THE SEED: the statements are not yours to turn. If you find one false, say at which input.
  Laid BY PROGRAM, IN A SANDBOX (cutbox-rows.mjs): the forced cells as the released guide's own fill.sh prints them over the translation 115734ac470f7e69… (all of the seat's roots in one cut). By AI agents, Wed Nov 11 2026. No macro, syntax, notation, axiom, sorry.
-/
import Derived.Test.YthdcjcdgddejbaaDoorChecked
import GoSem.Claim
import GoSem.ClaimJoined
import GoSem.ClaimMapViews
import Derived.JoinedTies
import Derived.KernelRfl
namespace Go.Proofs.YthdcjcdgddejbaaDoor
/- THE CELL 'sum', in the pinned program and in every row, IS THE sha256 OF THE DUMP (.gsa) THAT YthdcjcdgddejbaaDoorProg.lean LOADS. Nothing in Lean hashes anything: it is a label: what it is worth is what the hold of that sum in a sandbox is worth. -/
noncomputable def Tryd.pinned : Pinned := { name := "ythdcjcdgddejbaadoor", sum := "115734ac470f7e69ba99ce82de74439311047d7f7032236e970a7a8c490bd5cb", checked := Tryd.checked }
namespace Rows
def none {H : Type} : Left H := { results := [], args := [] }

/- WHAT THE LISTED PACKAGE-LEVEL VARIABLES READ AS WHEN THE CALL BEGINS. Each datum BY PROGRAM (the guide's laid-datum.mjs) off the statement by which the dump's own 'gosem.cut.vars' lays the variable. In a bare row this is a premise. The card (YthdcjcdgddejbaaDoorCards.lean) ties it to the program's text. -/
def laid_plait_head_flagWords {H : Type} : DataW H := .agg [.lit (.int .u32 1), .lit (.int .u32 2), .lit (.int .u32 4), .lit (.int .u32 16)]

/-- 'plaitlaw05.HeadLays': WHATEVER THE INPUT: true; the input reads as it did. -/
def headLaysSpec : ChangeSpec := { name := "headLays", fn := fun _ => fun
  | [d1, d2] => { results := [.lit (.bool true)], args := [d1, d2] }
  | _ => none }
def headLaysRow : OpenClaim := { program := "ythdcjcdgddejbaadoor", sum := "115734ac470f7e69ba99ce82de74439311047d7f7032236e970a7a8c490bd5cb", func := "plait/plaitlaw05.HeadLays", spec := "headLays", unfollowed := true, recurses := true, named := ["plait/head.flagWords"], apart := false, laid := [("plait/head.flagWords", laid_plait_head_flagWords)] }
def HeadLaysSaid : Prop := headLaysRow.holds Tryd.pinned (OpenSpec.ofChange headLaysSpec)

/-- ITS FALSE NEIGHBOUR: 'it returns false'. Refute it at one input. -/
def headLaysWrong : ChangeSpec := { name := "headLays", fn := fun _ => fun
  | [d1, d2] => { results := [.lit (.bool false)], args := [d1, d2] }
  | _ => none }
def HeadLaysWrongFalsely : Prop := headLaysRow.holds Tryd.pinned (OpenSpec.ofChange headLaysWrong)

/-- 'plaitlaw05.HeadTells': WHATEVER THE INPUT: true; the input reads as it did. -/
def headTellsSpec : ChangeSpec := { name := "headTells", fn := fun _ => fun
  | [d1, d2, d3, d4] => { results := [.lit (.bool true)], args := [d1, d2, d3, d4] }
  | _ => none }
def headTellsRow : OpenClaim := { program := "ythdcjcdgddejbaadoor", sum := "115734ac470f7e69ba99ce82de74439311047d7f7032236e970a7a8c490bd5cb", func := "plait/plaitlaw05.HeadTells", spec := "headTells", unfollowed := true, recurses := true, named := ["plait/head.flagWords"], apart := false, laid := [("plait/head.flagWords", laid_plait_head_flagWords)] }
def HeadTellsSaid : Prop := headTellsRow.holds Tryd.pinned (OpenSpec.ofChange headTellsSpec)

/-- ITS FALSE NEIGHBOUR: 'it returns false'. Refute it at one input. -/
def headTellsWrong : ChangeSpec := { name := "headTells", fn := fun _ => fun
  | [d1, d2, d3, d4] => { results := [.lit (.bool false)], args := [d1, d2, d3, d4] }
  | _ => none }
def HeadTellsWrongFalsely : Prop := headTellsRow.holds Tryd.pinned (OpenSpec.ofChange headTellsWrong)

/-- 'plaitlaw05.HeadBack': WHATEVER THE INPUT: true; the input reads as it did. -/
def headBackSpec : ChangeSpec := { name := "headBack", fn := fun _ => fun
  | [d1, d2, d3] => { results := [.lit (.bool true)], args := [d1, d2, d3] }
  | _ => none }
def headBackRow : OpenClaim := { program := "ythdcjcdgddejbaadoor", sum := "115734ac470f7e69ba99ce82de74439311047d7f7032236e970a7a8c490bd5cb", func := "plait/plaitlaw05.HeadBack", spec := "headBack", unfollowed := true, recurses := true, named := ["plait/head.flagWords"], apart := false, laid := [("plait/head.flagWords", laid_plait_head_flagWords)] }
def HeadBackSaid : Prop := headBackRow.holds Tryd.pinned (OpenSpec.ofChange headBackSpec)

/-- ITS FALSE NEIGHBOUR: 'it returns false'. Refute it at one input. -/
def headBackWrong : ChangeSpec := { name := "headBack", fn := fun _ => fun
  | [d1, d2, d3] => { results := [.lit (.bool false)], args := [d1, d2, d3] }
  | _ => none }
def HeadBackWrongFalsely : Prop := headBackRow.holds Tryd.pinned (OpenSpec.ofChange headBackWrong)

/-- 'plaitlaw05.HeadByte': WHATEVER THE INPUT: true; the input reads as it did. -/
def headByteSpec : ChangeSpec := { name := "headByte", fn := fun _ => fun
  | [d1, d2, d3, d4] => { results := [.lit (.bool true)], args := [d1, d2, d3, d4] }
  | _ => none }
def headByteRow : OpenClaim := { program := "ythdcjcdgddejbaadoor", sum := "115734ac470f7e69ba99ce82de74439311047d7f7032236e970a7a8c490bd5cb", func := "plait/plaitlaw05.HeadByte", spec := "headByte", unfollowed := true, recurses := true, named := ["plait/head.flagWords"], apart := false, laid := [("plait/head.flagWords", laid_plait_head_flagWords)] }
def HeadByteSaid : Prop := headByteRow.holds Tryd.pinned (OpenSpec.ofChange headByteSpec)

/-- ITS FALSE NEIGHBOUR: 'it returns false'. Refute it at one input. -/
def headByteWrong : ChangeSpec := { name := "headByte", fn := fun _ => fun
  | [d1, d2, d3, d4] => { results := [.lit (.bool false)], args := [d1, d2, d3, d4] }
  | _ => none }
def HeadByteWrongFalsely : Prop := headByteRow.holds Tryd.pinned (OpenSpec.ofChange headByteWrong)

/-- 'plaitlaw05.HeadKnown': WHATEVER THE INPUT: true; the input reads as it did. -/
def headKnownSpec : ChangeSpec := { name := "headKnown", fn := fun _ => fun
  | [] => { results := [.lit (.bool true)], args := [] }
  | _ => none }
def headKnownRow : OpenClaim := { program := "ythdcjcdgddejbaadoor", sum := "115734ac470f7e69ba99ce82de74439311047d7f7032236e970a7a8c490bd5cb", func := "plait/plaitlaw05.HeadKnown", spec := "headKnown", unfollowed := true, recurses := true, named := ["plait/head.flagWords"], apart := false, laid := [("plait/head.flagWords", laid_plait_head_flagWords)] }
def HeadKnownSaid : Prop := headKnownRow.holds Tryd.pinned (OpenSpec.ofChange headKnownSpec)

/-- ITS FALSE NEIGHBOUR: 'it returns false'. Refute it at one input. -/
def headKnownWrong : ChangeSpec := { name := "headKnown", fn := fun _ => fun
  | [] => { results := [.lit (.bool false)], args := [] }
  | _ => none }
def HeadKnownWrongFalsely : Prop := headKnownRow.holds Tryd.pinned (OpenSpec.ofChange headKnownWrong)

/- THE SECOND FORM. 'bulk': how many values and letters a reading holds, each counted each time it is reached (what is shared counts as often as it is met; a slice's spare places count too). A statement '..UptoSaid' is the law's where the arguments, and the package variables that the reading takes, are together of bulk at most 1048576: NARROWER than '..Said'. Prove '..Said' where nothing that the law and all that it calls make is longer than what came in: it says more and counts as full. Else prove '..UptoSaid'. A law counts once. -/
mutual
def uptoBulk {H : Type} : DataW H → Nat
  | .lit (.string bytes) => bytes.length + 1
  | .lit _ => 1
  | .nil => 1
  | .ptr d => uptoBulk d + 1
  | .slice elems spare => uptoBulkAll elems + uptoBulkAll spare + 1
  | .agg parts => uptoBulkAll parts + 1
  | .iface _ d => uptoBulk d + 1
  | .map entries => uptoBulkEntries entries + 1
  | .held _ => 1
def uptoBulkAll {H : Type} : List (DataW H) → Nat
  | [] => 0
  | d :: r => uptoBulk d + uptoBulkAll r
def uptoBulkEntries {H : Type} : List (Lit × DataW H) → Nat
  | [] => 0
  | x :: r => uptoBulkEntry x + uptoBulkEntries r
def uptoBulkEntry {H : Type} : Lit × DataW H → Nat
  | (.string bytes, d) => bytes.length + uptoBulk d + 1
  | (_, d) => uptoBulk d + 1
 end
def uptoSmall : (H : Type) → List (DataW H) → Bool := fun _ ds => decide (uptoBulkAll ds ≤ 1048576)
def OpenSpec.upto (s : _root_.Go.ChangeSpec) : _root_.Go.OpenSpec := { _root_.Go.OpenSpec.ofChange s with cond := some uptoSmall }

/-- 'plaitlaw05.HeadLays', WHERE WHAT IT READS IS OF BULK AT MOST 1048576: true; the input reads as it did. -/
def headLaysUptoRow : OpenClaim := { program := "ythdcjcdgddejbaadoor", sum := "115734ac470f7e69ba99ce82de74439311047d7f7032236e970a7a8c490bd5cb", func := "plait/plaitlaw05.HeadLays", spec := "headLays", unfollowed := true, recurses := true, named := ["plait/head.flagWords"], apart := false, laid := [("plait/head.flagWords", laid_plait_head_flagWords)], narrowed := true }
def HeadLaysUptoSaid : Prop := headLaysUptoRow.holds Tryd.pinned (OpenSpec.upto headLaysSpec)

/-- 'plaitlaw05.HeadTells', WHERE WHAT IT READS IS OF BULK AT MOST 1048576: true; the input reads as it did. -/
def headTellsUptoRow : OpenClaim := { program := "ythdcjcdgddejbaadoor", sum := "115734ac470f7e69ba99ce82de74439311047d7f7032236e970a7a8c490bd5cb", func := "plait/plaitlaw05.HeadTells", spec := "headTells", unfollowed := true, recurses := true, named := ["plait/head.flagWords"], apart := false, laid := [("plait/head.flagWords", laid_plait_head_flagWords)], narrowed := true }
def HeadTellsUptoSaid : Prop := headTellsUptoRow.holds Tryd.pinned (OpenSpec.upto headTellsSpec)

/-- 'plaitlaw05.HeadBack', WHERE WHAT IT READS IS OF BULK AT MOST 1048576: true; the input reads as it did. -/
def headBackUptoRow : OpenClaim := { program := "ythdcjcdgddejbaadoor", sum := "115734ac470f7e69ba99ce82de74439311047d7f7032236e970a7a8c490bd5cb", func := "plait/plaitlaw05.HeadBack", spec := "headBack", unfollowed := true, recurses := true, named := ["plait/head.flagWords"], apart := false, laid := [("plait/head.flagWords", laid_plait_head_flagWords)], narrowed := true }
def HeadBackUptoSaid : Prop := headBackUptoRow.holds Tryd.pinned (OpenSpec.upto headBackSpec)

/-- 'plaitlaw05.HeadByte', WHERE WHAT IT READS IS OF BULK AT MOST 1048576: true; the input reads as it did. -/
def headByteUptoRow : OpenClaim := { program := "ythdcjcdgddejbaadoor", sum := "115734ac470f7e69ba99ce82de74439311047d7f7032236e970a7a8c490bd5cb", func := "plait/plaitlaw05.HeadByte", spec := "headByte", unfollowed := true, recurses := true, named := ["plait/head.flagWords"], apart := false, laid := [("plait/head.flagWords", laid_plait_head_flagWords)], narrowed := true }
def HeadByteUptoSaid : Prop := headByteUptoRow.holds Tryd.pinned (OpenSpec.upto headByteSpec)

/-- 'plaitlaw05.HeadKnown', WHERE WHAT IT READS IS OF BULK AT MOST 1048576: true; the input reads as it did. -/
def headKnownUptoRow : OpenClaim := { program := "ythdcjcdgddejbaadoor", sum := "115734ac470f7e69ba99ce82de74439311047d7f7032236e970a7a8c490bd5cb", func := "plait/plaitlaw05.HeadKnown", spec := "headKnown", unfollowed := true, recurses := true, named := ["plait/head.flagWords"], apart := false, laid := [("plait/head.flagWords", laid_plait_head_flagWords)], narrowed := true }
def HeadKnownUptoSaid : Prop := headKnownUptoRow.holds Tryd.pinned (OpenSpec.upto headKnownSpec)

end Rows
end Go.Proofs.YthdcjcdgddejbaaDoor
