/-
  Single operations on texts and digests in a region that draws its order: compared, put together, a part of a digest made a text. No statement of the document is here.
-/
import Derived.Test.YtaeedicihildoaaDoorShaEq
import Derived.Test.YtaeedicihildoaaDoorWalkOps
import Derived.Test.YtaeedicihildoaaDoorShaRefS
import Derived.Laws.Concat
namespace Go.Proofs.YtaeedicihildoaaDoor
open Go.RowKit
set_option linter.unusedVariables false

/-- The end, the act written out. -/
theorem held_end_at {P : Program} {ops : Array Oper} {S : World → Prop} {Q : Exit → Act → World → Prop} {md : Region.Mode} {listed : Array Bool} {a : Act} {w : World} (A : Act) (hr : Region.ready md ops listed = []) (hA : a = A) (h : Q .normal A w) : wpAnyH P md ops (NoPanic Q) S 0 listed a w := by subst hA; exact held_end hr h
theorem ex_streq {ρ : Operand → Value} {o : Oper} {w : World} (t u : TypeId) (x y : Operand) (ho : o.op = .binOp .eql t x y u) (a b : ByteArray) (hx : ρ x = .string a) (hy : ρ y = .string b) (ht : Tryd.prog.underlying t = some .string) (h : a = b) :
    (execOp ρ o).run Tryd.prog w = .ok (.value (.bool true)) w := by
  subst h
  unfold execOp
  rw [ho]
  simp [hx, hy, go_sem]
theorem ex_strneq {ρ : Operand → Value} {o : Oper} {w : World} (t u : TypeId) (x y : Operand) (ho : o.op = .binOp .neq t x y u) (a b : ByteArray) (hx : ρ x = .string a) (hy : ρ y = .string b) (ht : Tryd.prog.underlying t = some .string) (h : a = b) :
    (execOp ρ o).run Tryd.prog w = .ok (.value (.bool false)) w := by
  subst h
  unfold execOp
  rw [ho]
  simp [hx, hy, go_sem]
theorem ex_strcat {ρ : Operand → Value} {o : Oper} {w : World} (t u : TypeId) (x y : Operand) (ho : o.op = .binOp .add t x y u) (a b c : ByteArray) (hx : ρ x = .string a) (hy : ρ y = .string b) (ha : (a.size : Int) ≤ 8388608) (hb : (b.size : Int) ≤ 8388608) (h : c = a ++ b) :
    (execOp ρ o).run Tryd.prog w = .ok (.value (.string c)) w := by
  subst h
  unfold execOp
  rw [ho]
  have hr := run_string_add (P := Tryd.prog) w a b ha hb
  simp [hx, hy, eqGuard, Go.binOp, hr]
theorem ex_slice0 {P : Program} {ρ : Operand → Value} {o : Oper} {w : World} (t : TypeId) (x : Operand) (ho : o.op = .slice t x none none none) {v r : Value} (hx : ρ x = v) (he : (Instr.sliceAt t v none none none).run P w = .ok r w) : (execOp ρ o).run P w = .ok (.value r) w := by
  unfold execOp
  rw [ho]
  simp [hx, he]
theorem ex_convert_to {P : Program} {ρ : Operand → Value} {o : Oper} {w w' : World} (t u : TypeId) (x : Operand) (ho : o.op = .convert t u x) {v r : Value} (hx : ρ x = v) (he : (convert t u v).run P w = .ok r w') : (execOp ρ o).run P w = .ok (.value r) w' := by
  unfold execOp
  rw [ho]
  simp [hx, he]
end Go.Proofs.YtaeedicihildoaaDoor
