/-
  A new digest, and a new address, made in a region that draws its order. No statement of the document is here.
-/
import Derived.Test.YtcbakfnpbhgjoaaDoorKeyMore
namespace Go.Proofs.YtcbakfnpbhgjoaaDoor
open Go.RowKit
set_option linter.unusedVariables false

theorem ex_alloc {ρ : Operand → Value} {o : Oper} {w : World} (t : TypeId) (cs : Array Value) (ho : o.op = .alloc t) (hz : ∀ w, (zeroValue t).run Tryd.prog w = .ok (.agg cs) w) :
    (execOp ρ o).run Tryd.prog w = .ok (.value (.pointer (some ⟨w.heap.size, 0, none⟩))) (w.alloc (.cells cs t)) := by
  unfold execOp
  rw [ho]
  simp [Instr.alloc, hz, newVar, newRow, Value.cells]
theorem addr_zero (w : World) : (zeroValue 38).run Tryd.prog w = .ok (.agg #[.int .i64 0, .string ⟨#[]⟩, .bool false, .int .i64 0]) w := by kernel_rfl
end Go.Proofs.YtcbakfnpbhgjoaaDoor
