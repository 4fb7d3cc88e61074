/-
  Words for layer 2: a cursor in memory (Cur), and what keeps it. The word for a block that is known whole (Blk) is SumWords'. No statement of the document is here.
-/
import Derived.Test.YtbimdlcgjpeheaaSumWords
namespace Go.Proofs.Ytbimdlcgjpeheaa
open Go.RowKit
set_option linter.unusedVariables false

/-- A cursor in memory: its text, where it stands, whether it is broken. -/
def Cur (w : World) (b : Nat) (s : ByteArray) (k : Nat) (br : Bool) : Prop := Blk w b 100 #[.string s, .int .i64 (k : Int), .bool br]

section
variable {w w' : World} {b : Nat} {s : ByteArray} {k : Nat} {br : Bool}
theorem Cur.c0 (h : Cur w b s k br) : w.cell? ⟨b, 0, none⟩ = some (.string s) := Blk.cell h 0
theorem Cur.c1 (h : Cur w b s k br) : w.cell? ⟨b, 1, none⟩ = some (.int .i64 (k : Int)) := Blk.cell h 1
theorem Cur.c2 (h : Cur w b s k br) : w.cell? ⟨b, 2, none⟩ = some (.bool br) := Blk.cell h 2
theorem Cur.fz (h : Cur w b s k br) (i : Nat) : w.frozen? ⟨b, i, none⟩ = false := Blk.frozen h i
theorem Cur.setAt (h : Cur w b s k br) (n : Nat) : Cur (w.setCell ⟨b, 1, none⟩ (.int .i64 (n : Int))) b s n br := Blk.set_ h 1 _
theorem Cur.setBr (h : Cur w b s k br) (c : Bool) : Cur (w.setCell ⟨b, 2, none⟩ (.bool c)) b s k c := Blk.set_ h 2 _
end
/-- Nothing but block b, and what is new, has turned; there a cursor stands. -/
def Moved (w w' : World) (b : Nat) (s : ByteArray) (k : Nat) (br : Bool) : Prop := w.grownBy w' (some b) ∧ Cur w' b s k br

theorem Moved.trans {w w' w'' : World} {b : Nat} {s s' : ByteArray} {k k' : Nat} {br br' : Bool} (h : Moved w w' b s k br) (h' : Moved w' w'' b s' k' br') : Moved w w'' b s' k' br' := ⟨h.1.trans h'.1, h'.2⟩
theorem Moved.after {w w' w'' : World} {b : Nat} {s : ByteArray} {k : Nat} {br : Bool} (h : w.grownBy w' (some b)) (h' : Moved w' w'' b s k br) : Moved w w'' b s k br := ⟨h.trans h'.1, h'.2⟩
end Go.Proofs.Ytbimdlcgjpeheaa
