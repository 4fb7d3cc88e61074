/-
  A region of a deferred function, one operation after the other: one that yields a value, and 'recover'. No program in it.
-/
import Derived.Test.YtbimdlcgjpeheaaRows
import Derived.Defers
import Derived.Recover
namespace Go.Proofs.Ytbimdlcgjpeheaa
set_option linter.unusedVariables false

section
variable {P : Program} {ops : Array Oper} {Q : Exit → Act → List Frame → World → Prop} {a : Act} {cs cs' : List Frame} {w w' : World} {rest : List Nat}
theorem opsS_value (i : Nat) {o : Oper} (v : Value) (hi : ops[i]? = some o) (hw : Region.wanted o (yielded ops a.tmps) = true) (he : (execOp a.eval o).run P w = .ok (.value v) w) (h : wpOpsS P ops Q rest (a.put o.dst v) cs w) : wpOpsS P ops Q (i :: rest) a cs w := by
  unfold wpOpsS
  simp only [hi, hw, if_true, he]
  exact h
theorem opsS_skip (i : Nat) {o : Oper} (hi : ops[i]? = some o) (hw : Region.wanted o (yielded ops a.tmps) = true) (he : (execOp a.eval o).run P w = .ok .skip w') (h : wpOpsS P ops Q rest (a.put o.dst undef) cs w') : wpOpsS P ops Q (i :: rest) a cs w := by
  unfold wpOpsS
  simp only [hi, hw, if_true, he]
  exact h
theorem opsS_recover (i : Nat) {o : Oper} {v : Value} (hi : ops[i]? = some o) (hw : Region.wanted o (yielded ops a.tmps) = true) (he : (execOp a.eval o).run P w = .ok .recover w) (hr : recoverD cs = some (v, cs')) (h : wpOpsS P ops Q rest (a.put o.dst v) cs' w) : wpOpsS P ops Q (i :: rest) a cs w := by
  unfold wpOpsS
  simp only [hi, hw, if_true, he, hr]
  exact h
theorem opsS_idle (i : Nat) {o : Oper} (hi : ops[i]? = some o) (hw : Region.wanted o (yielded ops a.tmps) = true) (he : (execOp a.eval o).run P w = .ok .recover w) (hr : recoverD cs = none) (h : wpOpsS P ops Q rest (a.put o.dst .nilIface) cs w) : wpOpsS P ops Q (i :: rest) a cs w := by
  unfold wpOpsS
  simp only [hi, hw, if_true, he, hr]
  exact h
theorem region_S {id : Nat} (l : List Nat) (hl : List.range ops.size = l) (h : wpOpsS P ops Q l a cs w) : (Code.region id ops false).wpS P Q a cs w := wpS_region (by rw [hl]; exact h)
theorem opsS_end (A : Act) (hA : a = A) (h : Q .normal A cs w) : wpOpsS P ops Q [] a cs w := by subst hA; exact h
end
theorem callsD_S {P : Program} {f : FuncId} {fn : Func} {c : Code} {args : Array Value} {u : FrameMode} {w : World} {R : Ending → FrameMode → World → Prop} (hf : P.funcs[f]? = some fn) (hb : fn.body = some c) (A : Act) (hA : ({ tmps := args ++ Array.replicate (fn.ntmps - args.size) undef, defers := [] } : Act) = A)
    (h : ∀ (c₀ : Frame) (cs : List Frame), c₀.mode = u → c.wpS P (bodyPostS P fn c₀ cs R) A (c₀ :: cs) w) : CallsD P f args u w R :=
  callsD_of_wpS hf hb fun c₀ cs hu => by rw [hA]; exact h c₀ cs hu
theorem recoverD_in {c : Frame} {rest : List Frame} {v : Value} {older : List PanicEntry} (h : c.mode = .panicking ({ v := v, recovered := false } :: older)) : recoverD (c :: rest) = some (v, { c with mode := .panicking ({ v := v, recovered := true } :: older) } :: rest) := by
  simp [recoverD, h]
theorem recoverD_idle {c : Frame} {rest : List Frame} (h : c.mode = .returning) : recoverD (c :: rest) = none := by
  simp [recoverD, h]
end Go.Proofs.Ytbimdlcgjpeheaa
