/-
  NARROWER THAN 'FOR EVERY INPUT', by the rows' own cells (each row's printed sentence says how): KeyTells: laid · KeyMacs: laid · KeyAddresses: laid · KeyParts: laid · KeyFields: laid · KeySides: laid · KeyKnown: laid.
  DERIVED. THE GIVEN ROWS OF THIS SEAT. 7 by the template 'for every input the law returns true; each argument reads behind the call as it read before'; 0 by the template 'total and deterministic' (their statements: YtcbakfnpbhgjoaaDoorTotals.lean).
  GIVEN WITH THE SEED: the statements are not yours to turn. If you find one false, say at which input.
  Laid BY PROGRAM, IN A SANDBOX (cutbox-rows.mjs): the forced cells as the released guide's own fill.sh prints them over the translation e7dda3dd147197b5… (all of the seat's roots in one cut). By AI agents, Wed Nov 11 2026. No macro, syntax, notation, axiom, sorry.
-/
import Derived.Test.YtcbakfnpbhgjoaaDoorChecked
import GoSem.Claim
import GoSem.ClaimJoined
import GoSem.ClaimMapViews
import Derived.JoinedTies
import Derived.KernelRfl
namespace Go.Proofs.YtcbakfnpbhgjoaaDoor
/- THE CELL 'sum', in the pinned program and in every row, IS THE sha256 OF THE DUMP (.gsa) THAT YtcbakfnpbhgjoaaDoorProg.lean LOADS. Nothing in Lean hashes anything: it is a label: what it is worth is what the hold of that sum in a sandbox is worth. -/
noncomputable def Tryd.pinned : Pinned := { name := "ytcbakfnpbhgjoaadoor", sum := "e7dda3dd147197b54a5ea88d31fbd8fabb4aa5766c7e8a62b352f31433e74ec4", checked := Tryd.checked }
namespace Rows
def none {H : Type} : Left H := { results := [], args := [] }

/- WHAT THE LISTED PACKAGE-LEVEL VARIABLES READ AS WHEN THE CALL BEGINS. Each datum BY PROGRAM (the guide's laid-datum.mjs) off the statement by which the dump's own 'gosem.cut.vars' lays the variable. In a bare row this is a premise. The card (YtcbakfnpbhgjoaaDoorCards.lean) ties it to the program's text. -/
def laid_plait_sha_initialWords {H : Type} : DataW H := .agg [.lit (.int .u32 1779033703), .lit (.int .u32 3144134277), .lit (.int .u32 1013904242), .lit (.int .u32 2773480762), .lit (.int .u32 1359893119), .lit (.int .u32 2600822924), .lit (.int .u32 528734635), .lit (.int .u32 1541459225)]
def laid_plait_sha_roundWords {H : Type} : DataW H := .agg [.lit (.int .u32 1116352408), .lit (.int .u32 1899447441), .lit (.int .u32 3049323471), .lit (.int .u32 3921009573), .lit (.int .u32 961987163), .lit (.int .u32 1508970993), .lit (.int .u32 2453635748), .lit (.int .u32 2870763221), .lit (.int .u32 3624381080), .lit (.int .u32 310598401), .lit (.int .u32 607225278), .lit (.int .u32 1426881987), .lit (.int .u32 1925078388), .lit (.int .u32 2162078206), .lit (.int .u32 2614888103), .lit (.int .u32 3248222580), .lit (.int .u32 3835390401), .lit (.int .u32 4022224774), .lit (.int .u32 264347078), .lit (.int .u32 604807628), .lit (.int .u32 770255983), .lit (.int .u32 1249150122), .lit (.int .u32 1555081692), .lit (.int .u32 1996064986), .lit (.int .u32 2554220882), .lit (.int .u32 2821834349), .lit (.int .u32 2952996808), .lit (.int .u32 3210313671), .lit (.int .u32 3336571891), .lit (.int .u32 3584528711), .lit (.int .u32 113926993), .lit (.int .u32 338241895), .lit (.int .u32 666307205), .lit (.int .u32 773529912), .lit (.int .u32 1294757372), .lit (.int .u32 1396182291), .lit (.int .u32 1695183700), .lit (.int .u32 1986661051), .lit (.int .u32 2177026350), .lit (.int .u32 2456956037), .lit (.int .u32 2730485921), .lit (.int .u32 2820302411), .lit (.int .u32 3259730800), .lit (.int .u32 3345764771), .lit (.int .u32 3516065817), .lit (.int .u32 3600352804), .lit (.int .u32 4094571909), .lit (.int .u32 275423344), .lit (.int .u32 430227734), .lit (.int .u32 506948616), .lit (.int .u32 659060556), .lit (.int .u32 883997877), .lit (.int .u32 958139571), .lit (.int .u32 1322822218), .lit (.int .u32 1537002063), .lit (.int .u32 1747873779), .lit (.int .u32 1955562222), .lit (.int .u32 2024104815), .lit (.int .u32 2227730452), .lit (.int .u32 2361852424), .lit (.int .u32 2428436474), .lit (.int .u32 2756734187), .lit (.int .u32 3204031479), .lit (.int .u32 3329325298)]

/-- 'plaitlaw08.KeyTells': WHATEVER THE INPUT: true; the input reads as it did. -/
def keyTellsSpec : ChangeSpec := { name := "keyTells", fn := fun _ => fun
  | [d] => { results := [.lit (.bool true)], args := [d] }
  | _ => none }
def keyTellsRow : OpenClaim := { program := "ytcbakfnpbhgjoaadoor", sum := "e7dda3dd147197b54a5ea88d31fbd8fabb4aa5766c7e8a62b352f31433e74ec4", func := "plait/plaitlaw08.KeyTells", spec := "keyTells", inPlace := ["internal/abi.NoEscape", "internal/bytealg.MakeNoZero"], unfollowed := true, recurses := true, named := ["plait/sha.initialWords", "plait/sha.roundWords"], apart := false, laid := [("plait/sha.initialWords", laid_plait_sha_initialWords), ("plait/sha.roundWords", laid_plait_sha_roundWords)] }
def KeyTellsSaid : Prop := keyTellsRow.holds Tryd.pinned (OpenSpec.ofChange keyTellsSpec)

/-- ITS FALSE NEIGHBOUR: 'it returns false'. Refute it at one input. -/
def keyTellsWrong : ChangeSpec := { name := "keyTells", fn := fun _ => fun
  | [d] => { results := [.lit (.bool false)], args := [d] }
  | _ => none }
def KeyTellsWrongFalsely : Prop := keyTellsRow.holds Tryd.pinned (OpenSpec.ofChange keyTellsWrong)

/-- 'plaitlaw08.KeyMacs': WHATEVER THE INPUT: true; the input reads as it did. -/
def keyMacsSpec : ChangeSpec := { name := "keyMacs", fn := fun _ => fun
  | [d] => { results := [.lit (.bool true)], args := [d] }
  | _ => none }
def keyMacsRow : OpenClaim := { program := "ytcbakfnpbhgjoaadoor", sum := "e7dda3dd147197b54a5ea88d31fbd8fabb4aa5766c7e8a62b352f31433e74ec4", func := "plait/plaitlaw08.KeyMacs", spec := "keyMacs", inPlace := ["internal/abi.NoEscape", "internal/bytealg.MakeNoZero"], unfollowed := true, recurses := true, named := ["plait/sha.initialWords", "plait/sha.roundWords"], apart := false, laid := [("plait/sha.initialWords", laid_plait_sha_initialWords), ("plait/sha.roundWords", laid_plait_sha_roundWords)] }
def KeyMacsSaid : Prop := keyMacsRow.holds Tryd.pinned (OpenSpec.ofChange keyMacsSpec)

/-- ITS FALSE NEIGHBOUR: 'it returns false'. Refute it at one input. -/
def keyMacsWrong : ChangeSpec := { name := "keyMacs", fn := fun _ => fun
  | [d] => { results := [.lit (.bool false)], args := [d] }
  | _ => none }
def KeyMacsWrongFalsely : Prop := keyMacsRow.holds Tryd.pinned (OpenSpec.ofChange keyMacsWrong)

/-- 'plaitlaw08.KeyAddresses': WHATEVER THE INPUT: true; the input reads as it did. -/
def keyAddressesSpec : ChangeSpec := { name := "keyAddresses", fn := fun _ => fun
  | [d1, d2] => { results := [.lit (.bool true)], args := [d1, d2] }
  | _ => none }
def keyAddressesRow : OpenClaim := { program := "ytcbakfnpbhgjoaadoor", sum := "e7dda3dd147197b54a5ea88d31fbd8fabb4aa5766c7e8a62b352f31433e74ec4", func := "plait/plaitlaw08.KeyAddresses", spec := "keyAddresses", inPlace := ["internal/abi.NoEscape", "internal/bytealg.MakeNoZero"], unfollowed := true, recurses := true, named := ["plait/sha.initialWords", "plait/sha.roundWords"], apart := false, laid := [("plait/sha.initialWords", laid_plait_sha_initialWords), ("plait/sha.roundWords", laid_plait_sha_roundWords)] }
def KeyAddressesSaid : Prop := keyAddressesRow.holds Tryd.pinned (OpenSpec.ofChange keyAddressesSpec)

/-- ITS FALSE NEIGHBOUR: 'it returns false'. Refute it at one input. -/
def keyAddressesWrong : ChangeSpec := { name := "keyAddresses", fn := fun _ => fun
  | [d1, d2] => { results := [.lit (.bool false)], args := [d1, d2] }
  | _ => none }
def KeyAddressesWrongFalsely : Prop := keyAddressesRow.holds Tryd.pinned (OpenSpec.ofChange keyAddressesWrong)

/-- 'plaitlaw08.KeyParts': WHATEVER THE INPUT: true; the input reads as it did. -/
def keyPartsSpec : ChangeSpec := { name := "keyParts", fn := fun _ => fun
  | [d] => { results := [.lit (.bool true)], args := [d] }
  | _ => none }
def keyPartsRow : OpenClaim := { program := "ytcbakfnpbhgjoaadoor", sum := "e7dda3dd147197b54a5ea88d31fbd8fabb4aa5766c7e8a62b352f31433e74ec4", func := "plait/plaitlaw08.KeyParts", spec := "keyParts", inPlace := ["internal/abi.NoEscape", "internal/bytealg.MakeNoZero"], unfollowed := true, recurses := true, named := ["plait/sha.initialWords", "plait/sha.roundWords"], apart := false, laid := [("plait/sha.initialWords", laid_plait_sha_initialWords), ("plait/sha.roundWords", laid_plait_sha_roundWords)] }
def KeyPartsSaid : Prop := keyPartsRow.holds Tryd.pinned (OpenSpec.ofChange keyPartsSpec)

/-- ITS FALSE NEIGHBOUR: 'it returns false'. Refute it at one input. -/
def keyPartsWrong : ChangeSpec := { name := "keyParts", fn := fun _ => fun
  | [d] => { results := [.lit (.bool false)], args := [d] }
  | _ => none }
def KeyPartsWrongFalsely : Prop := keyPartsRow.holds Tryd.pinned (OpenSpec.ofChange keyPartsWrong)

/-- 'plaitlaw08.KeyFields': WHATEVER THE INPUT: true; the input reads as it did. -/
def keyFieldsSpec : ChangeSpec := { name := "keyFields", fn := fun _ => fun
  | [d1, d2] => { results := [.lit (.bool true)], args := [d1, d2] }
  | _ => none }
def keyFieldsRow : OpenClaim := { program := "ytcbakfnpbhgjoaadoor", sum := "e7dda3dd147197b54a5ea88d31fbd8fabb4aa5766c7e8a62b352f31433e74ec4", func := "plait/plaitlaw08.KeyFields", spec := "keyFields", inPlace := ["internal/abi.NoEscape", "internal/bytealg.MakeNoZero"], unfollowed := true, recurses := true, named := ["plait/sha.initialWords", "plait/sha.roundWords"], apart := false, laid := [("plait/sha.initialWords", laid_plait_sha_initialWords), ("plait/sha.roundWords", laid_plait_sha_roundWords)] }
def KeyFieldsSaid : Prop := keyFieldsRow.holds Tryd.pinned (OpenSpec.ofChange keyFieldsSpec)

/-- ITS FALSE NEIGHBOUR: 'it returns false'. Refute it at one input. -/
def keyFieldsWrong : ChangeSpec := { name := "keyFields", fn := fun _ => fun
  | [d1, d2] => { results := [.lit (.bool false)], args := [d1, d2] }
  | _ => none }
def KeyFieldsWrongFalsely : Prop := keyFieldsRow.holds Tryd.pinned (OpenSpec.ofChange keyFieldsWrong)

/-- 'plaitlaw08.KeySides': WHATEVER THE INPUT: true; the input reads as it did. -/
def keySidesSpec : ChangeSpec := { name := "keySides", fn := fun _ => fun
  | [d1, d2, d3] => { results := [.lit (.bool true)], args := [d1, d2, d3] }
  | _ => none }
def keySidesRow : OpenClaim := { program := "ytcbakfnpbhgjoaadoor", sum := "e7dda3dd147197b54a5ea88d31fbd8fabb4aa5766c7e8a62b352f31433e74ec4", func := "plait/plaitlaw08.KeySides", spec := "keySides", inPlace := ["internal/abi.NoEscape", "internal/bytealg.MakeNoZero"], unfollowed := true, recurses := true, named := ["plait/sha.initialWords", "plait/sha.roundWords"], apart := false, laid := [("plait/sha.initialWords", laid_plait_sha_initialWords), ("plait/sha.roundWords", laid_plait_sha_roundWords)] }
def KeySidesSaid : Prop := keySidesRow.holds Tryd.pinned (OpenSpec.ofChange keySidesSpec)

/-- ITS FALSE NEIGHBOUR: 'it returns false'. Refute it at one input. -/
def keySidesWrong : ChangeSpec := { name := "keySides", fn := fun _ => fun
  | [d1, d2, d3] => { results := [.lit (.bool false)], args := [d1, d2, d3] }
  | _ => none }
def KeySidesWrongFalsely : Prop := keySidesRow.holds Tryd.pinned (OpenSpec.ofChange keySidesWrong)

/-- 'plaitlaw08.KeyKnown': WHATEVER THE INPUT: true; the input reads as it did. -/
def keyKnownSpec : ChangeSpec := { name := "keyKnown", fn := fun _ => fun
  | [] => { results := [.lit (.bool true)], args := [] }
  | _ => none }
def keyKnownRow : OpenClaim := { program := "ytcbakfnpbhgjoaadoor", sum := "e7dda3dd147197b54a5ea88d31fbd8fabb4aa5766c7e8a62b352f31433e74ec4", func := "plait/plaitlaw08.KeyKnown", spec := "keyKnown", inPlace := ["internal/abi.NoEscape", "internal/bytealg.MakeNoZero"], unfollowed := true, recurses := true, named := ["plait/sha.initialWords", "plait/sha.roundWords"], apart := false, laid := [("plait/sha.initialWords", laid_plait_sha_initialWords), ("plait/sha.roundWords", laid_plait_sha_roundWords)] }
def KeyKnownSaid : Prop := keyKnownRow.holds Tryd.pinned (OpenSpec.ofChange keyKnownSpec)

/-- ITS FALSE NEIGHBOUR: 'it returns false'. Refute it at one input. -/
def keyKnownWrong : ChangeSpec := { name := "keyKnown", fn := fun _ => fun
  | [] => { results := [.lit (.bool false)], args := [] }
  | _ => none }
def KeyKnownWrongFalsely : Prop := keyKnownRow.holds Tryd.pinned (OpenSpec.ofChange keyKnownWrong)

/- THE SECOND FORM. 'bulk': how many values and letters a reading holds, each counted each time it is reached (what is shared counts as often as it is met; a slice's spare places count too). A statement '..UptoSaid' is the law's where the arguments, and the package variables that the reading takes, are together of bulk at most 1048576: NARROWER than '..Said'. Prove '..Said' where nothing that the law and all that it calls make is longer than what came in: it says more and counts as full. Else prove '..UptoSaid'. A law counts once. -/
mutual
def uptoBulk {H : Type} : DataW H → Nat
  | .lit (.string bytes) => bytes.length + 1
  | .lit _ => 1
  | .nil => 1
  | .ptr d => uptoBulk d + 1
  | .slice elems spare => uptoBulkAll elems + uptoBulkAll spare + 1
  | .agg parts => uptoBulkAll parts + 1
  | .iface _ d => uptoBulk d + 1
  | .map entries => uptoBulkEntries entries + 1
  | .held _ => 1
def uptoBulkAll {H : Type} : List (DataW H) → Nat
  | [] => 0
  | d :: r => uptoBulk d + uptoBulkAll r
def uptoBulkEntries {H : Type} : List (Lit × DataW H) → Nat
  | [] => 0
  | x :: r => uptoBulkEntry x + uptoBulkEntries r
def uptoBulkEntry {H : Type} : Lit × DataW H → Nat
  | (.string bytes, d) => bytes.length + uptoBulk d + 1
  | (_, d) => uptoBulk d + 1
 end
def uptoSmall : (H : Type) → List (DataW H) → Bool := fun _ ds => decide (uptoBulkAll ds ≤ 1048576)
def OpenSpec.upto (s : _root_.Go.ChangeSpec) : _root_.Go.OpenSpec := { _root_.Go.OpenSpec.ofChange s with cond := some uptoSmall }

/-- 'plaitlaw08.KeyTells', WHERE WHAT IT READS IS OF BULK AT MOST 1048576: true; the input reads as it did. -/
def keyTellsUptoRow : OpenClaim := { program := "ytcbakfnpbhgjoaadoor", sum := "e7dda3dd147197b54a5ea88d31fbd8fabb4aa5766c7e8a62b352f31433e74ec4", func := "plait/plaitlaw08.KeyTells", spec := "keyTells", inPlace := ["internal/abi.NoEscape", "internal/bytealg.MakeNoZero"], unfollowed := true, recurses := true, named := ["plait/sha.initialWords", "plait/sha.roundWords"], apart := false, laid := [("plait/sha.initialWords", laid_plait_sha_initialWords), ("plait/sha.roundWords", laid_plait_sha_roundWords)], narrowed := true }
def KeyTellsUptoSaid : Prop := keyTellsUptoRow.holds Tryd.pinned (OpenSpec.upto keyTellsSpec)

/-- 'plaitlaw08.KeyMacs', WHERE WHAT IT READS IS OF BULK AT MOST 1048576: true; the input reads as it did. -/
def keyMacsUptoRow : OpenClaim := { program := "ytcbakfnpbhgjoaadoor", sum := "e7dda3dd147197b54a5ea88d31fbd8fabb4aa5766c7e8a62b352f31433e74ec4", func := "plait/plaitlaw08.KeyMacs", spec := "keyMacs", inPlace := ["internal/abi.NoEscape", "internal/bytealg.MakeNoZero"], unfollowed := true, recurses := true, named := ["plait/sha.initialWords", "plait/sha.roundWords"], apart := false, laid := [("plait/sha.initialWords", laid_plait_sha_initialWords), ("plait/sha.roundWords", laid_plait_sha_roundWords)], narrowed := true }
def KeyMacsUptoSaid : Prop := keyMacsUptoRow.holds Tryd.pinned (OpenSpec.upto keyMacsSpec)

/-- 'plaitlaw08.KeyAddresses', WHERE WHAT IT READS IS OF BULK AT MOST 1048576: true; the input reads as it did. -/
def keyAddressesUptoRow : OpenClaim := { program := "ytcbakfnpbhgjoaadoor", sum := "e7dda3dd147197b54a5ea88d31fbd8fabb4aa5766c7e8a62b352f31433e74ec4", func := "plait/plaitlaw08.KeyAddresses", spec := "keyAddresses", inPlace := ["internal/abi.NoEscape", "internal/bytealg.MakeNoZero"], unfollowed := true, recurses := true, named := ["plait/sha.initialWords", "plait/sha.roundWords"], apart := false, laid := [("plait/sha.initialWords", laid_plait_sha_initialWords), ("plait/sha.roundWords", laid_plait_sha_roundWords)], narrowed := true }
def KeyAddressesUptoSaid : Prop := keyAddressesUptoRow.holds Tryd.pinned (OpenSpec.upto keyAddressesSpec)

/-- 'plaitlaw08.KeyParts', WHERE WHAT IT READS IS OF BULK AT MOST 1048576: true; the input reads as it did. -/
def keyPartsUptoRow : OpenClaim := { program := "ytcbakfnpbhgjoaadoor", sum := "e7dda3dd147197b54a5ea88d31fbd8fabb4aa5766c7e8a62b352f31433e74ec4", func := "plait/plaitlaw08.KeyParts", spec := "keyParts", inPlace := ["internal/abi.NoEscape", "internal/bytealg.MakeNoZero"], unfollowed := true, recurses := true, named := ["plait/sha.initialWords", "plait/sha.roundWords"], apart := false, laid := [("plait/sha.initialWords", laid_plait_sha_initialWords), ("plait/sha.roundWords", laid_plait_sha_roundWords)], narrowed := true }
def KeyPartsUptoSaid : Prop := keyPartsUptoRow.holds Tryd.pinned (OpenSpec.upto keyPartsSpec)

/-- 'plaitlaw08.KeyFields', WHERE WHAT IT READS IS OF BULK AT MOST 1048576: true; the input reads as it did. -/
def keyFieldsUptoRow : OpenClaim := { program := "ytcbakfnpbhgjoaadoor", sum := "e7dda3dd147197b54a5ea88d31fbd8fabb4aa5766c7e8a62b352f31433e74ec4", func := "plait/plaitlaw08.KeyFields", spec := "keyFields", inPlace := ["internal/abi.NoEscape", "internal/bytealg.MakeNoZero"], unfollowed := true, recurses := true, named := ["plait/sha.initialWords", "plait/sha.roundWords"], apart := false, laid := [("plait/sha.initialWords", laid_plait_sha_initialWords), ("plait/sha.roundWords", laid_plait_sha_roundWords)], narrowed := true }
def KeyFieldsUptoSaid : Prop := keyFieldsUptoRow.holds Tryd.pinned (OpenSpec.upto keyFieldsSpec)

/-- 'plaitlaw08.KeySides', WHERE WHAT IT READS IS OF BULK AT MOST 1048576: true; the input reads as it did. -/
def keySidesUptoRow : OpenClaim := { program := "ytcbakfnpbhgjoaadoor", sum := "e7dda3dd147197b54a5ea88d31fbd8fabb4aa5766c7e8a62b352f31433e74ec4", func := "plait/plaitlaw08.KeySides", spec := "keySides", inPlace := ["internal/abi.NoEscape", "internal/bytealg.MakeNoZero"], unfollowed := true, recurses := true, named := ["plait/sha.initialWords", "plait/sha.roundWords"], apart := false, laid := [("plait/sha.initialWords", laid_plait_sha_initialWords), ("plait/sha.roundWords", laid_plait_sha_roundWords)], narrowed := true }
def KeySidesUptoSaid : Prop := keySidesUptoRow.holds Tryd.pinned (OpenSpec.upto keySidesSpec)

/-- 'plaitlaw08.KeyKnown', WHERE WHAT IT READS IS OF BULK AT MOST 1048576: true; the input reads as it did. -/
def keyKnownUptoRow : OpenClaim := { program := "ytcbakfnpbhgjoaadoor", sum := "e7dda3dd147197b54a5ea88d31fbd8fabb4aa5766c7e8a62b352f31433e74ec4", func := "plait/plaitlaw08.KeyKnown", spec := "keyKnown", inPlace := ["internal/abi.NoEscape", "internal/bytealg.MakeNoZero"], unfollowed := true, recurses := true, named := ["plait/sha.initialWords", "plait/sha.roundWords"], apart := false, laid := [("plait/sha.initialWords", laid_plait_sha_initialWords), ("plait/sha.roundWords", laid_plait_sha_roundWords)], narrowed := true }
def KeyKnownUptoSaid : Prop := keyKnownUptoRow.holds Tryd.pinned (OpenSpec.upto keyKnownSpec)

end Rows
end Go.Proofs.YtcbakfnpbhgjoaaDoor
