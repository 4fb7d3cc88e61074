/-
  NARROWER THAN 'FOR EVERY INPUT', by the rows' own cells (each row's printed sentence says how): JoinLays: laid · JoinReads: laid · JoinBack: laid · JoinPasses: laid · JoinCut: laid · JoinKnown: laid.
  DERIVED. THE GIVEN ROWS OF THIS SEAT. 6 by the template 'for every input the law returns true; each argument reads behind the call as it read before'; 0 by the template 'total and deterministic' (their statements: YthnokkcpmikajaaDoorTotals.lean).
  GIVEN WITH THE SEED: the statements are not yours to turn. If you find one false, say at which input.
  Laid BY PROGRAM, IN A SANDBOX (cutbox-rows.mjs): the forced cells as the released guide's own fill.sh prints them over the translation 69410cd9be846e9b… (all of the seat's roots in one cut). By AI agents, Wed Nov 11 2026. No macro, syntax, notation, axiom, sorry.
-/
import Derived.Test.YthnokkcpmikajaaDoorChecked
import GoSem.Claim
import GoSem.ClaimJoined
import GoSem.ClaimMapViews
import Derived.JoinedTies
import Derived.KernelRfl
namespace Go.Proofs.YthnokkcpmikajaaDoor
/- THE CELL 'sum', in the pinned program and in every row, IS THE sha256 OF THE DUMP (.gsa) THAT YthnokkcpmikajaaDoorProg.lean LOADS. Nothing in Lean hashes anything: it is a label: what it is worth is what the hold of that sum in a sandbox is worth. -/
noncomputable def Tryd.pinned : Pinned := { name := "ythnokkcpmikajaadoor", sum := "69410cd9be846e9b7d64f8c8585d5b0a895eb9b235ff74ec9bdd32aa46a72b26", checked := Tryd.checked }
namespace Rows
def none {H : Type} : Left H := { results := [], args := [] }

/- WHAT THE LISTED PACKAGE-LEVEL VARIABLES READ AS WHEN THE CALL BEGINS. Each datum BY PROGRAM (the guide's laid-datum.mjs) off the statement by which the dump's own 'gosem.cut.vars' lays the variable. In a bare row this is a premise. The card (YthnokkcpmikajaaDoorCards.lean) ties it to the program's text. -/
def laid_plait_join_sizes {H : Type} : DataW H := .agg [.agg [.lit (.int .i64 10), .lit (.int .i64 0)], .agg [.lit (.int .i64 14), .lit (.int .i64 8)], .agg [.lit (.int .i64 22), .lit (.int .i64 20)]]

/-- 'plaitlaw10.JoinLays': WHATEVER THE INPUT: true; the input reads as it did. -/
def joinLaysSpec : ChangeSpec := { name := "joinLays", fn := fun _ => fun
  | [d1, d2] => { results := [.lit (.bool true)], args := [d1, d2] }
  | _ => none }
def joinLaysRow : OpenClaim := { program := "ythnokkcpmikajaadoor", sum := "69410cd9be846e9b7d64f8c8585d5b0a895eb9b235ff74ec9bdd32aa46a72b26", func := "plait/plaitlaw10.JoinLays", spec := "joinLays", unfollowed := true, recurses := true, named := ["plait/join.sizes"], apart := false, laid := [("plait/join.sizes", laid_plait_join_sizes)] }
def JoinLaysSaid : Prop := joinLaysRow.holds Tryd.pinned (OpenSpec.ofChange joinLaysSpec)

/-- ITS FALSE NEIGHBOUR: 'it returns false'. Refute it at one input. -/
def joinLaysWrong : ChangeSpec := { name := "joinLays", fn := fun _ => fun
  | [d1, d2] => { results := [.lit (.bool false)], args := [d1, d2] }
  | _ => none }
def JoinLaysWrongFalsely : Prop := joinLaysRow.holds Tryd.pinned (OpenSpec.ofChange joinLaysWrong)

/-- 'plaitlaw10.JoinReads': WHATEVER THE INPUT: true; the input reads as it did. -/
def joinReadsSpec : ChangeSpec := { name := "joinReads", fn := fun _ => fun
  | [d1, d2, d3] => { results := [.lit (.bool true)], args := [d1, d2, d3] }
  | _ => none }
def joinReadsRow : OpenClaim := { program := "ythnokkcpmikajaadoor", sum := "69410cd9be846e9b7d64f8c8585d5b0a895eb9b235ff74ec9bdd32aa46a72b26", func := "plait/plaitlaw10.JoinReads", spec := "joinReads", unfollowed := true, recurses := true, named := ["plait/join.sizes"], apart := false, laid := [("plait/join.sizes", laid_plait_join_sizes)] }
def JoinReadsSaid : Prop := joinReadsRow.holds Tryd.pinned (OpenSpec.ofChange joinReadsSpec)

/-- ITS FALSE NEIGHBOUR: 'it returns false'. Refute it at one input. -/
def joinReadsWrong : ChangeSpec := { name := "joinReads", fn := fun _ => fun
  | [d1, d2, d3] => { results := [.lit (.bool false)], args := [d1, d2, d3] }
  | _ => none }
def JoinReadsWrongFalsely : Prop := joinReadsRow.holds Tryd.pinned (OpenSpec.ofChange joinReadsWrong)

/-- 'plaitlaw10.JoinBack': WHATEVER THE INPUT: true; the input reads as it did. -/
def joinBackSpec : ChangeSpec := { name := "joinBack", fn := fun _ => fun
  | [d1, d2] => { results := [.lit (.bool true)], args := [d1, d2] }
  | _ => none }
def joinBackRow : OpenClaim := { program := "ythnokkcpmikajaadoor", sum := "69410cd9be846e9b7d64f8c8585d5b0a895eb9b235ff74ec9bdd32aa46a72b26", func := "plait/plaitlaw10.JoinBack", spec := "joinBack", unfollowed := true, recurses := true, named := ["plait/join.sizes"], apart := false, laid := [("plait/join.sizes", laid_plait_join_sizes)] }
def JoinBackSaid : Prop := joinBackRow.holds Tryd.pinned (OpenSpec.ofChange joinBackSpec)

/-- ITS FALSE NEIGHBOUR: 'it returns false'. Refute it at one input. -/
def joinBackWrong : ChangeSpec := { name := "joinBack", fn := fun _ => fun
  | [d1, d2] => { results := [.lit (.bool false)], args := [d1, d2] }
  | _ => none }
def JoinBackWrongFalsely : Prop := joinBackRow.holds Tryd.pinned (OpenSpec.ofChange joinBackWrong)

/-- 'plaitlaw10.JoinPasses': WHATEVER THE INPUT: true; the input reads as it did. -/
def joinPassesSpec : ChangeSpec := { name := "joinPasses", fn := fun _ => fun
  | [d1, d2, d3] => { results := [.lit (.bool true)], args := [d1, d2, d3] }
  | _ => none }
def joinPassesRow : OpenClaim := { program := "ythnokkcpmikajaadoor", sum := "69410cd9be846e9b7d64f8c8585d5b0a895eb9b235ff74ec9bdd32aa46a72b26", func := "plait/plaitlaw10.JoinPasses", spec := "joinPasses", unfollowed := true, recurses := true, named := ["plait/join.sizes"], apart := false, laid := [("plait/join.sizes", laid_plait_join_sizes)] }
def JoinPassesSaid : Prop := joinPassesRow.holds Tryd.pinned (OpenSpec.ofChange joinPassesSpec)

/-- ITS FALSE NEIGHBOUR: 'it returns false'. Refute it at one input. -/
def joinPassesWrong : ChangeSpec := { name := "joinPasses", fn := fun _ => fun
  | [d1, d2, d3] => { results := [.lit (.bool false)], args := [d1, d2, d3] }
  | _ => none }
def JoinPassesWrongFalsely : Prop := joinPassesRow.holds Tryd.pinned (OpenSpec.ofChange joinPassesWrong)

/-- 'plaitlaw10.JoinCut': WHATEVER THE INPUT: true; the input reads as it did. -/
def joinCutSpec : ChangeSpec := { name := "joinCut", fn := fun _ => fun
  | [d1, d2, d3, d4] => { results := [.lit (.bool true)], args := [d1, d2, d3, d4] }
  | _ => none }
def joinCutRow : OpenClaim := { program := "ythnokkcpmikajaadoor", sum := "69410cd9be846e9b7d64f8c8585d5b0a895eb9b235ff74ec9bdd32aa46a72b26", func := "plait/plaitlaw10.JoinCut", spec := "joinCut", unfollowed := true, recurses := true, named := ["plait/join.sizes"], apart := false, laid := [("plait/join.sizes", laid_plait_join_sizes)] }
def JoinCutSaid : Prop := joinCutRow.holds Tryd.pinned (OpenSpec.ofChange joinCutSpec)

/-- ITS FALSE NEIGHBOUR: 'it returns false'. Refute it at one input. -/
def joinCutWrong : ChangeSpec := { name := "joinCut", fn := fun _ => fun
  | [d1, d2, d3, d4] => { results := [.lit (.bool false)], args := [d1, d2, d3, d4] }
  | _ => none }
def JoinCutWrongFalsely : Prop := joinCutRow.holds Tryd.pinned (OpenSpec.ofChange joinCutWrong)

/-- 'plaitlaw10.JoinKnown': WHATEVER THE INPUT: true; the input reads as it did. -/
def joinKnownSpec : ChangeSpec := { name := "joinKnown", fn := fun _ => fun
  | [] => { results := [.lit (.bool true)], args := [] }
  | _ => none }
def joinKnownRow : OpenClaim := { program := "ythnokkcpmikajaadoor", sum := "69410cd9be846e9b7d64f8c8585d5b0a895eb9b235ff74ec9bdd32aa46a72b26", func := "plait/plaitlaw10.JoinKnown", spec := "joinKnown", unfollowed := true, recurses := true, named := ["plait/join.sizes"], apart := false, laid := [("plait/join.sizes", laid_plait_join_sizes)] }
def JoinKnownSaid : Prop := joinKnownRow.holds Tryd.pinned (OpenSpec.ofChange joinKnownSpec)

/-- ITS FALSE NEIGHBOUR: 'it returns false'. Refute it at one input. -/
def joinKnownWrong : ChangeSpec := { name := "joinKnown", fn := fun _ => fun
  | [] => { results := [.lit (.bool false)], args := [] }
  | _ => none }
def JoinKnownWrongFalsely : Prop := joinKnownRow.holds Tryd.pinned (OpenSpec.ofChange joinKnownWrong)

/- THE SECOND FORM. 'bulk': how many values and letters a reading holds, each counted each time it is reached (what is shared counts as often as it is met; a slice's spare places count too). A statement '..UptoSaid' is the law's where the arguments, and the package variables that the reading takes, are together of bulk at most 1048576: NARROWER than '..Said'. Prove '..Said' where nothing that the law and all that it calls make is longer than what came in: it says more and counts as full. Else prove '..UptoSaid'. A law counts once. -/
mutual
def uptoBulk {H : Type} : DataW H → Nat
  | .lit (.string bytes) => bytes.length + 1
  | .lit _ => 1
  | .nil => 1
  | .ptr d => uptoBulk d + 1
  | .slice elems spare => uptoBulkAll elems + uptoBulkAll spare + 1
  | .agg parts => uptoBulkAll parts + 1
  | .iface _ d => uptoBulk d + 1
  | .map entries => uptoBulkEntries entries + 1
  | .held _ => 1
def uptoBulkAll {H : Type} : List (DataW H) → Nat
  | [] => 0
  | d :: r => uptoBulk d + uptoBulkAll r
def uptoBulkEntries {H : Type} : List (Lit × DataW H) → Nat
  | [] => 0
  | x :: r => uptoBulkEntry x + uptoBulkEntries r
def uptoBulkEntry {H : Type} : Lit × DataW H → Nat
  | (.string bytes, d) => bytes.length + uptoBulk d + 1
  | (_, d) => uptoBulk d + 1
 end
def uptoSmall : (H : Type) → List (DataW H) → Bool := fun _ ds => decide (uptoBulkAll ds ≤ 1048576)
def OpenSpec.upto (s : _root_.Go.ChangeSpec) : _root_.Go.OpenSpec := { _root_.Go.OpenSpec.ofChange s with cond := some uptoSmall }

/-- 'plaitlaw10.JoinLays', WHERE WHAT IT READS IS OF BULK AT MOST 1048576: true; the input reads as it did. -/
def joinLaysUptoRow : OpenClaim := { program := "ythnokkcpmikajaadoor", sum := "69410cd9be846e9b7d64f8c8585d5b0a895eb9b235ff74ec9bdd32aa46a72b26", func := "plait/plaitlaw10.JoinLays", spec := "joinLays", unfollowed := true, recurses := true, named := ["plait/join.sizes"], apart := false, laid := [("plait/join.sizes", laid_plait_join_sizes)], narrowed := true }
def JoinLaysUptoSaid : Prop := joinLaysUptoRow.holds Tryd.pinned (OpenSpec.upto joinLaysSpec)

/-- 'plaitlaw10.JoinReads', WHERE WHAT IT READS IS OF BULK AT MOST 1048576: true; the input reads as it did. -/
def joinReadsUptoRow : OpenClaim := { program := "ythnokkcpmikajaadoor", sum := "69410cd9be846e9b7d64f8c8585d5b0a895eb9b235ff74ec9bdd32aa46a72b26", func := "plait/plaitlaw10.JoinReads", spec := "joinReads", unfollowed := true, recurses := true, named := ["plait/join.sizes"], apart := false, laid := [("plait/join.sizes", laid_plait_join_sizes)], narrowed := true }
def JoinReadsUptoSaid : Prop := joinReadsUptoRow.holds Tryd.pinned (OpenSpec.upto joinReadsSpec)

/-- 'plaitlaw10.JoinBack', WHERE WHAT IT READS IS OF BULK AT MOST 1048576: true; the input reads as it did. -/
def joinBackUptoRow : OpenClaim := { program := "ythnokkcpmikajaadoor", sum := "69410cd9be846e9b7d64f8c8585d5b0a895eb9b235ff74ec9bdd32aa46a72b26", func := "plait/plaitlaw10.JoinBack", spec := "joinBack", unfollowed := true, recurses := true, named := ["plait/join.sizes"], apart := false, laid := [("plait/join.sizes", laid_plait_join_sizes)], narrowed := true }
def JoinBackUptoSaid : Prop := joinBackUptoRow.holds Tryd.pinned (OpenSpec.upto joinBackSpec)

/-- 'plaitlaw10.JoinPasses', WHERE WHAT IT READS IS OF BULK AT MOST 1048576: true; the input reads as it did. -/
def joinPassesUptoRow : OpenClaim := { program := "ythnokkcpmikajaadoor", sum := "69410cd9be846e9b7d64f8c8585d5b0a895eb9b235ff74ec9bdd32aa46a72b26", func := "plait/plaitlaw10.JoinPasses", spec := "joinPasses", unfollowed := true, recurses := true, named := ["plait/join.sizes"], apart := false, laid := [("plait/join.sizes", laid_plait_join_sizes)], narrowed := true }
def JoinPassesUptoSaid : Prop := joinPassesUptoRow.holds Tryd.pinned (OpenSpec.upto joinPassesSpec)

/-- 'plaitlaw10.JoinCut', WHERE WHAT IT READS IS OF BULK AT MOST 1048576: true; the input reads as it did. -/
def joinCutUptoRow : OpenClaim := { program := "ythnokkcpmikajaadoor", sum := "69410cd9be846e9b7d64f8c8585d5b0a895eb9b235ff74ec9bdd32aa46a72b26", func := "plait/plaitlaw10.JoinCut", spec := "joinCut", unfollowed := true, recurses := true, named := ["plait/join.sizes"], apart := false, laid := [("plait/join.sizes", laid_plait_join_sizes)], narrowed := true }
def JoinCutUptoSaid : Prop := joinCutUptoRow.holds Tryd.pinned (OpenSpec.upto joinCutSpec)

/-- 'plaitlaw10.JoinKnown', WHERE WHAT IT READS IS OF BULK AT MOST 1048576: true; the input reads as it did. -/
def joinKnownUptoRow : OpenClaim := { program := "ythnokkcpmikajaadoor", sum := "69410cd9be846e9b7d64f8c8585d5b0a895eb9b235ff74ec9bdd32aa46a72b26", func := "plait/plaitlaw10.JoinKnown", spec := "joinKnown", unfollowed := true, recurses := true, named := ["plait/join.sizes"], apart := false, laid := [("plait/join.sizes", laid_plait_join_sizes)], narrowed := true }
def JoinKnownUptoSaid : Prop := joinKnownUptoRow.holds Tryd.pinned (OpenSpec.upto joinKnownSpec)

end Rows
end Go.Proofs.YthnokkcpmikajaaDoor
