/-
  No cell of these rows narrows 'for every input' (looked for: loops, veiled, ifaces, maps, wideKeys, modest, calm, conditions, laid).
  DERIVED. THE GIVEN ROWS OF THIS SEAT. 5 by the template 'for every input the law returns true; each argument reads behind the call as it read before'; 0 by the template 'total and deterministic' (their statements: YtbimdlcgjpeheaaTotals.lean).
  GIVEN WITH THE SEED: the statements are not yours to turn. If you find one false, say at which input.
  Laid BY PROGRAM, IN A SANDBOX (cutbox-rows.mjs): the forced cells as the released guide's own fill.sh prints them over the translation 2b9cb712ce0e17b0… (all of the seat's roots in one cut). By AI agents, Wed Nov 11 2026. No macro, syntax, notation, axiom, sorry.
-/
import Derived.Test.YtbimdlcgjpeheaaChecked
import GoSem.Claim
import GoSem.ClaimJoined
import GoSem.ClaimMapViews
import Derived.JoinedTies
import Derived.KernelRfl
namespace Go.Proofs.Ytbimdlcgjpeheaa
/- THE CELL 'sum', in the pinned program and in every row, IS THE sha256 OF THE DUMP (.gsa) THAT YtbimdlcgjpeheaaProg.lean LOADS. Nothing in Lean hashes anything: it is a label: what it is worth is what the hold of that sum in a sandbox is worth. -/
noncomputable def Try.pinned : Pinned := { name := "ytbimdlcgjpeheaa", sum := "2b9cb712ce0e17b0b4cd324cc71e82f4e6b7af53ee7c0aadaa7eef950f3fcd67", checked := Try.checked }
namespace Rows
def none {H : Type} : Left H := { results := [], args := [] }

/-- 'plaitlaw13.CtrlLays': WHATEVER THE INPUT: true; the input reads as it did. -/
def ctrlLaysSpec : ChangeSpec := { name := "ctrlLays", fn := fun _ => fun
  | [d1, d2, d3] => { results := [.lit (.bool true)], args := [d1, d2, d3] }
  | _ => none }
def ctrlLaysRow : OpenClaim := { program := "ytbimdlcgjpeheaa", sum := "2b9cb712ce0e17b0b4cd324cc71e82f4e6b7af53ee7c0aadaa7eef950f3fcd67", func := "plait/plaitlaw13.CtrlLays", spec := "ctrlLays", inPlace := ["internal/abi.NoEscape", "internal/bytealg.MakeNoZero"], unfollowed := true, recurses := true, apart := false }
def CtrlLaysSaid : Prop := ctrlLaysRow.holds Try.pinned (OpenSpec.ofChange ctrlLaysSpec)

/-- ITS FALSE NEIGHBOUR: 'it returns false'. Refute it at one input. -/
def ctrlLaysWrong : ChangeSpec := { name := "ctrlLays", fn := fun _ => fun
  | [d1, d2, d3] => { results := [.lit (.bool false)], args := [d1, d2, d3] }
  | _ => none }
def CtrlLaysWrongFalsely : Prop := ctrlLaysRow.holds Try.pinned (OpenSpec.ofChange ctrlLaysWrong)

/-- 'plaitlaw13.CtrlTells': WHATEVER THE INPUT: true; the input reads as it did. -/
def ctrlTellsSpec : ChangeSpec := { name := "ctrlTells", fn := fun _ => fun
  | [d1, d2, d3, d4] => { results := [.lit (.bool true)], args := [d1, d2, d3, d4] }
  | _ => none }
def ctrlTellsRow : OpenClaim := { program := "ytbimdlcgjpeheaa", sum := "2b9cb712ce0e17b0b4cd324cc71e82f4e6b7af53ee7c0aadaa7eef950f3fcd67", func := "plait/plaitlaw13.CtrlTells", spec := "ctrlTells", inPlace := ["internal/abi.NoEscape", "internal/bytealg.MakeNoZero"], unfollowed := true, recurses := true, apart := false }
def CtrlTellsSaid : Prop := ctrlTellsRow.holds Try.pinned (OpenSpec.ofChange ctrlTellsSpec)

/-- ITS FALSE NEIGHBOUR: 'it returns false'. Refute it at one input. -/
def ctrlTellsWrong : ChangeSpec := { name := "ctrlTells", fn := fun _ => fun
  | [d1, d2, d3, d4] => { results := [.lit (.bool false)], args := [d1, d2, d3, d4] }
  | _ => none }
def CtrlTellsWrongFalsely : Prop := ctrlTellsRow.holds Try.pinned (OpenSpec.ofChange ctrlTellsWrong)

/-- 'plaitlaw13.CtrlBack': WHATEVER THE INPUT: true; the input reads as it did. -/
def ctrlBackSpec : ChangeSpec := { name := "ctrlBack", fn := fun _ => fun
  | [d1, d2, d3] => { results := [.lit (.bool true)], args := [d1, d2, d3] }
  | _ => none }
def ctrlBackRow : OpenClaim := { program := "ytbimdlcgjpeheaa", sum := "2b9cb712ce0e17b0b4cd324cc71e82f4e6b7af53ee7c0aadaa7eef950f3fcd67", func := "plait/plaitlaw13.CtrlBack", spec := "ctrlBack", inPlace := ["internal/abi.NoEscape", "internal/bytealg.MakeNoZero"], unfollowed := true, recurses := true, apart := false }
def CtrlBackSaid : Prop := ctrlBackRow.holds Try.pinned (OpenSpec.ofChange ctrlBackSpec)

/-- ITS FALSE NEIGHBOUR: 'it returns false'. Refute it at one input. -/
def ctrlBackWrong : ChangeSpec := { name := "ctrlBack", fn := fun _ => fun
  | [d1, d2, d3] => { results := [.lit (.bool false)], args := [d1, d2, d3] }
  | _ => none }
def CtrlBackWrongFalsely : Prop := ctrlBackRow.holds Try.pinned (OpenSpec.ofChange ctrlBackWrong)

/-- 'plaitlaw13.CtrlOne': WHATEVER THE INPUT: true; the input reads as it did. -/
def ctrlOneSpec : ChangeSpec := { name := "ctrlOne", fn := fun _ => fun
  | [d1, d2, d3, d4] => { results := [.lit (.bool true)], args := [d1, d2, d3, d4] }
  | _ => none }
def ctrlOneRow : OpenClaim := { program := "ytbimdlcgjpeheaa", sum := "2b9cb712ce0e17b0b4cd324cc71e82f4e6b7af53ee7c0aadaa7eef950f3fcd67", func := "plait/plaitlaw13.CtrlOne", spec := "ctrlOne", inPlace := ["internal/abi.NoEscape", "internal/bytealg.MakeNoZero"], unfollowed := true, recurses := true, apart := false }
def CtrlOneSaid : Prop := ctrlOneRow.holds Try.pinned (OpenSpec.ofChange ctrlOneSpec)

/-- ITS FALSE NEIGHBOUR: 'it returns false'. Refute it at one input. -/
def ctrlOneWrong : ChangeSpec := { name := "ctrlOne", fn := fun _ => fun
  | [d1, d2, d3, d4] => { results := [.lit (.bool false)], args := [d1, d2, d3, d4] }
  | _ => none }
def CtrlOneWrongFalsely : Prop := ctrlOneRow.holds Try.pinned (OpenSpec.ofChange ctrlOneWrong)

/-- 'plaitlaw13.CtrlKnown': WHATEVER THE INPUT: true; the input reads as it did. -/
def ctrlKnownSpec : ChangeSpec := { name := "ctrlKnown", fn := fun _ => fun
  | [] => { results := [.lit (.bool true)], args := [] }
  | _ => none }
def ctrlKnownRow : OpenClaim := { program := "ytbimdlcgjpeheaa", sum := "2b9cb712ce0e17b0b4cd324cc71e82f4e6b7af53ee7c0aadaa7eef950f3fcd67", func := "plait/plaitlaw13.CtrlKnown", spec := "ctrlKnown", inPlace := ["internal/abi.NoEscape", "internal/bytealg.MakeNoZero"], unfollowed := true, recurses := true, apart := false }
def CtrlKnownSaid : Prop := ctrlKnownRow.holds Try.pinned (OpenSpec.ofChange ctrlKnownSpec)

/-- ITS FALSE NEIGHBOUR: 'it returns false'. Refute it at one input. -/
def ctrlKnownWrong : ChangeSpec := { name := "ctrlKnown", fn := fun _ => fun
  | [] => { results := [.lit (.bool false)], args := [] }
  | _ => none }
def CtrlKnownWrongFalsely : Prop := ctrlKnownRow.holds Try.pinned (OpenSpec.ofChange ctrlKnownWrong)

/- THE SECOND FORM. 'bulk': how many values and letters a reading holds, each counted each time it is reached (what is shared counts as often as it is met; a slice's spare places count too). A statement '..UptoSaid' is the law's where the arguments, and the package variables that the reading takes, are together of bulk at most 1048576: NARROWER than '..Said'. Prove '..Said' where nothing that the law and all that it calls make is longer than what came in: it says more and counts as full. Else prove '..UptoSaid'. A law counts once. -/
mutual
def uptoBulk {H : Type} : DataW H → Nat
  | .lit (.string bytes) => bytes.length + 1
  | .lit _ => 1
  | .nil => 1
  | .ptr d => uptoBulk d + 1
  | .slice elems spare => uptoBulkAll elems + uptoBulkAll spare + 1
  | .agg parts => uptoBulkAll parts + 1
  | .iface _ d => uptoBulk d + 1
  | .map entries => uptoBulkEntries entries + 1
  | .held _ => 1
def uptoBulkAll {H : Type} : List (DataW H) → Nat
  | [] => 0
  | d :: r => uptoBulk d + uptoBulkAll r
def uptoBulkEntries {H : Type} : List (Lit × DataW H) → Nat
  | [] => 0
  | x :: r => uptoBulkEntry x + uptoBulkEntries r
def uptoBulkEntry {H : Type} : Lit × DataW H → Nat
  | (.string bytes, d) => bytes.length + uptoBulk d + 1
  | (_, d) => uptoBulk d + 1
 end
def uptoSmall : (H : Type) → List (DataW H) → Bool := fun _ ds => decide (uptoBulkAll ds ≤ 1048576)
def OpenSpec.upto (s : _root_.Go.ChangeSpec) : _root_.Go.OpenSpec := { _root_.Go.OpenSpec.ofChange s with cond := some uptoSmall }

/-- 'plaitlaw13.CtrlLays', WHERE WHAT IT READS IS OF BULK AT MOST 1048576: true; the input reads as it did. -/
def ctrlLaysUptoRow : OpenClaim := { program := "ytbimdlcgjpeheaa", sum := "2b9cb712ce0e17b0b4cd324cc71e82f4e6b7af53ee7c0aadaa7eef950f3fcd67", func := "plait/plaitlaw13.CtrlLays", spec := "ctrlLays", inPlace := ["internal/abi.NoEscape", "internal/bytealg.MakeNoZero"], unfollowed := true, recurses := true, apart := false, narrowed := true }
def CtrlLaysUptoSaid : Prop := ctrlLaysUptoRow.holds Try.pinned (OpenSpec.upto ctrlLaysSpec)

/-- 'plaitlaw13.CtrlTells', WHERE WHAT IT READS IS OF BULK AT MOST 1048576: true; the input reads as it did. -/
def ctrlTellsUptoRow : OpenClaim := { program := "ytbimdlcgjpeheaa", sum := "2b9cb712ce0e17b0b4cd324cc71e82f4e6b7af53ee7c0aadaa7eef950f3fcd67", func := "plait/plaitlaw13.CtrlTells", spec := "ctrlTells", inPlace := ["internal/abi.NoEscape", "internal/bytealg.MakeNoZero"], unfollowed := true, recurses := true, apart := false, narrowed := true }
def CtrlTellsUptoSaid : Prop := ctrlTellsUptoRow.holds Try.pinned (OpenSpec.upto ctrlTellsSpec)

/-- 'plaitlaw13.CtrlBack', WHERE WHAT IT READS IS OF BULK AT MOST 1048576: true; the input reads as it did. -/
def ctrlBackUptoRow : OpenClaim := { program := "ytbimdlcgjpeheaa", sum := "2b9cb712ce0e17b0b4cd324cc71e82f4e6b7af53ee7c0aadaa7eef950f3fcd67", func := "plait/plaitlaw13.CtrlBack", spec := "ctrlBack", inPlace := ["internal/abi.NoEscape", "internal/bytealg.MakeNoZero"], unfollowed := true, recurses := true, apart := false, narrowed := true }
def CtrlBackUptoSaid : Prop := ctrlBackUptoRow.holds Try.pinned (OpenSpec.upto ctrlBackSpec)

/-- 'plaitlaw13.CtrlOne', WHERE WHAT IT READS IS OF BULK AT MOST 1048576: true; the input reads as it did. -/
def ctrlOneUptoRow : OpenClaim := { program := "ytbimdlcgjpeheaa", sum := "2b9cb712ce0e17b0b4cd324cc71e82f4e6b7af53ee7c0aadaa7eef950f3fcd67", func := "plait/plaitlaw13.CtrlOne", spec := "ctrlOne", inPlace := ["internal/abi.NoEscape", "internal/bytealg.MakeNoZero"], unfollowed := true, recurses := true, apart := false, narrowed := true }
def CtrlOneUptoSaid : Prop := ctrlOneUptoRow.holds Try.pinned (OpenSpec.upto ctrlOneSpec)

/-- 'plaitlaw13.CtrlKnown', WHERE WHAT IT READS IS OF BULK AT MOST 1048576: true; the input reads as it did. -/
def ctrlKnownUptoRow : OpenClaim := { program := "ytbimdlcgjpeheaa", sum := "2b9cb712ce0e17b0b4cd324cc71e82f4e6b7af53ee7c0aadaa7eef950f3fcd67", func := "plait/plaitlaw13.CtrlKnown", spec := "ctrlKnown", inPlace := ["internal/abi.NoEscape", "internal/bytealg.MakeNoZero"], unfollowed := true, recurses := true, apart := false, narrowed := true }
def CtrlKnownUptoSaid : Prop := ctrlKnownUptoRow.holds Try.pinned (OpenSpec.upto ctrlKnownSpec)

end Rows
end Go.Proofs.Ytbimdlcgjpeheaa
