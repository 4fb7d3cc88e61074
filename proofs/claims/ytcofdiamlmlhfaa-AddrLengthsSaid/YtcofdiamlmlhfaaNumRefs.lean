/-
  Numbers as bytes by the document's own answer (plaitref01: Laid, Num), each by its walk.
-/
import Derived.Test.YtcofdiamlmlhfaaNumBytes
import Derived.Test.YtcofdiamlmlhfaaSumWords
import Derived.Laws.MakeOwn
import Derived.Laws.IdiomStrings
import Derived.OwnWalk
import Derived.Laws.AppendOwn
import Derived.Deep.RegionHeld3
namespace Go.Proofs.Ytcofdiamlmlhfaa
open Go.ChangeShapes Go.WideShapes Go.ChangeAt Go.RowKit
set_option linter.unusedVariables false

def byv (l : List UInt8) : Array Value := (l.map fun b => Value.int .u8 (b.toNat : Int)).toArray
theorem byv_size (l : List UInt8) : (byv l).size = l.length := by simp [byv]
theorem byv_get (l : List UInt8) (i : Nat) (h : i < l.length) : (byv l)[i]? = some (.int .u8 (l[i].toNat : Int)) := by simp [byv, h]
theorem byv_set (l : List UInt8) (i : Nat) (v : UInt8) : (byv l).setIfInBounds i (.int .u8 (v.toNat : Int)) = byv (l.set i v) := by simp [byv, List.map_set]
theorem add_off (b q : Nat) : (⟨b, 0, none⟩ : Addr).add q = ⟨b, q, none⟩ := by unfold Addr.add; split <;> simp_all
theorem below_then {a b c : World} (h : Below a.heap.size a b) (k : Below b.heap.size b c) : Below a.heap.size a c := h.trans (k.mono h.size)
theorem info8r : (Try.prog.info? 5).map (fun i => (i.zero, i.size, i.bytes)) = some (some (.int .u8 0), 1, 1) := by kernel_rfl
theorem be_take (m n j : Nat) (h : j < m) : (be m n).take (j + 1) = (be m n).take j ++ [UInt8.ofNat (n / 256 ^ (m - 1 - j))] := by
  rw [List.take_add_one, be_get m n j h]; rfl



end Go.Proofs.Ytcofdiamlmlhfaa
