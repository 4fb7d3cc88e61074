/-
  The document's own answers of layer 2 (plaitref02), each by its walk: Put, Take, Num, Left, End.
-/
import Derived.Test.YtbimdlcgjpeheaaCurMoves
import Derived.Test.YtbimdlcgjpeheaaCurMore
namespace Go.Proofs.Ytbimdlcgjpeheaa
open Go.ChangeShapes Go.WideShapes Go.ChangeAt Go.RowKit
set_option linter.unusedVariables false

theorem one_text (w : World) (c : Int) : (convert 45 9 (.slice (some ⟨w.heap.size, 0, none⟩) 1 1)).run Try.prog (w.alloc (.cells #[.int .u8 c] 5)) = .ok (.string ⟨#[UInt8.ofNat c.toNat]⟩) (w.alloc (.cells #[.int .u8 c] 5)) := by
  have h := run_convert_bytes_arg (P := Try.prog) (w.alloc (.cells #[.int .u8 c] 5)) 45 5 Try.underlying45 Try.underlying5 w.heap.size 0 1 1 [c] rfl (fun i hi => by
    obtain rfl : i = 0 := by omega
    exact (Blk.new w 5 #[.int .u8 c]).cell 0) 9 Try.underlying9
  exact h


section
variable {w w' : World} {b : Nat} {s : ByteArray} {k : Nat} {br : Bool}
end



end Go.Proofs.Ytbimdlcgjpeheaa
