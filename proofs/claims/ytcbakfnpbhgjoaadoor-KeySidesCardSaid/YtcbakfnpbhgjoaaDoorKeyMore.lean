/-
  More single operations of the laws' regions of layer 8: a part of an array, two numbers put together bit by bit. No statement of the document is here.
-/
import Derived.Test.YtcbakfnpbhgjoaaDoorKeyOpen
import Derived.Test.YtcbakfnpbhgjoaaDoorKeyWorks
namespace Go.Proofs.YtcbakfnpbhgjoaaDoor
open Go.RowKit
set_option linter.unusedVariables false

theorem ex_slice_front {P : Program} {ρ : Operand → Value} {o : Oper} {w : World} (t : TypeId) (x h : Operand) (ho : o.op = .slice t x none (some h) none) {v hv r : Value} (hx : ρ x = v) (hh : ρ h = hv) (he : (Instr.sliceAt t v none (some hv) none).run P w = .ok r w) :
    (execOp ρ o).run P w = .ok (.value r) w := by
  unfold execOp
  rw [ho]
  simp [hx, hh, he]
theorem ex_slice_back {P : Program} {ρ : Operand → Value} {o : Oper} {w : World} (t : TypeId) (x l : Operand) (ho : o.op = .slice t x (some l) none none) {v lv r : Value} (hx : ρ x = v) (hl : ρ l = lv) (he : (Instr.sliceAt t v (some lv) none none).run P w = .ok r w) :
    (execOp ρ o).run P w = .ok (.value r) w := by
  unfold execOp
  rw [ho]
  simp [hx, hl, he]
end Go.Proofs.YtcbakfnpbhgjoaaDoor
