/-
  Single operations on texts and digests in a region that draws its order: compared, put together, a part of a digest made a text. No statement of the document is here.
-/
import Derived.Test.YtcbakfnpbhgjoaaDoorShaEq
import Derived.Test.YtcbakfnpbhgjoaaDoorWalkOps
import Derived.Test.YtcbakfnpbhgjoaaDoorShaRefS
import Derived.Laws.Concat
namespace Go.Proofs.YtcbakfnpbhgjoaaDoor
open Go.RowKit
set_option linter.unusedVariables false

/-- The end, the act written out. -/
theorem held_end_at {P : Program} {ops : Array Oper} {S : World → Prop} {Q : Exit → Act → World → Prop} {md : Region.Mode} {listed : Array Bool} {a : Act} {w : World} (A : Act) (hr : Region.ready md ops listed = []) (hA : a = A) (h : Q .normal A w) : wpAnyH P md ops (NoPanic Q) S 0 listed a w := by subst hA; exact held_end hr h
theorem ex_streq {ρ : Operand → Value} {o : Oper} {w : World} (t u : TypeId) (x y : Operand) (ho : o.op = .binOp .eql t x y u) (a b : ByteArray) (hx : ρ x = .string a) (hy : ρ y = .string b) (ht : Tryd.prog.underlying t = some .string) (h : a = b) :
    (execOp ρ o).run Tryd.prog w = .ok (.value (.bool true)) w := by
  subst h
  unfold execOp
  rw [ho]
  simp [hx, hy, go_sem]
theorem ex_strneq {ρ : Operand → Value} {o : Oper} {w : World} (t u : TypeId) (x y : Operand) (ho : o.op = .binOp .neq t x y u) (a b : ByteArray) (hx : ρ x = .string a) (hy : ρ y = .string b) (ht : Tryd.prog.underlying t = some .string) (h : a = b) :
    (execOp ρ o).run Tryd.prog w = .ok (.value (.bool false)) w := by
  subst h
  unfold execOp
  rw [ho]
  simp [hx, hy, go_sem]
theorem ex_strcat {ρ : Operand → Value} {o : Oper} {w : World} (t u : TypeId) (x y : Operand) (ho : o.op = .binOp .add t x y u) (a b c : ByteArray) (hx : ρ x = .string a) (hy : ρ y = .string b) (ha : (a.size : Int) ≤ 8388608) (hb : (b.size : Int) ≤ 8388608) (h : c = a ++ b) :
    (execOp ρ o).run Tryd.prog w = .ok (.value (.string c)) w := by
  subst h
  unfold execOp
  rw [ho]
  have hr := run_string_add (P := Tryd.prog) w a b ha hb
  simp [hx, hy, eqGuard, Go.binOp, hr]
theorem dig_guard (op : BinOp) (x y : Operand) (C D : Array Value) (w : World) : (eqGuard op 32 x y (.agg C) (.agg D)).run Tryd.prog w = .ok () w := by
  have h : Tryd.prog.eqGuardType Tryd.prog.depth 32 = false := by kernel_rfl
  unfold eqGuard
  simp [h, go_sem]
theorem ex_digeq {ρ : Operand → Value} {o : Oper} {w : World} (u : TypeId) (x y : Operand) (ho : o.op = .binOp .eql 32 x y u) (l : List UInt8) (hl : l.length = 32) (D : Array Value) (hD : D = byv l) (hx : ρ x = .agg D) (hy : ρ y = .agg D) :
    (execOp ρ o).run Tryd.prog w = .ok (.value (.bool true)) w := by
  subst hD
  have q := digest_eq l l hl hl w
  unfold execOp
  rw [ho]
  simp [hx, hy, dig_guard, Go.binOp, Op.equal, Op.maxDepth, q]
theorem ex_digneq {ρ : Operand → Value} {o : Oper} {w : World} (u : TypeId) (x y : Operand) (ho : o.op = .binOp .neq 32 x y u) (l : List UInt8) (hl : l.length = 32) (D : Array Value) (hD : D = byv l) (hx : ρ x = .agg D) (hy : ρ y = .agg D) :
    (execOp ρ o).run Tryd.prog w = .ok (.value (.bool false)) w := by
  subst hD
  have q := digest_eq l l hl hl w
  unfold execOp
  rw [ho]
  simp [hx, hy, dig_guard, Go.binOp, Op.equal, Op.maxDepth, q]
/-- A store that is not the last operation. -/
theorem do_skip {P : Program} {ops : Array Oper} {R : World → Prop} {Q : Exit → Act → World → Prop} {md : Region.Mode} {z fuel : Nat} {listed : Array Bool} {a : Act} {w : World} (i : Nat) {o : Oper} {w' : World} (hi : ops[i]? = some o) (hw : Region.wanted o (yielded ops a.tmps) = true)
    (he : (execOp a.eval o).run P w = .ok .skip w') (hR : R w') (h : Walk P md ops Q z R fuel (listed.setIfInBounds i true) (a.put o.dst undef) w') : Doing P md ops Q z R fuel listed i a w := by
  refine doing_of hi hw ?_
  unfold Oper.wp
  rw [he]
  exact ⟨.inr hR, h⟩
theorem walk_end_at {P : Program} {ops : Array Oper} {R : World → Prop} {Q : Exit → Act → World → Prop} {md : Region.Mode} {z : Nat} {listed : Array Bool} {a : Act} {w : World} (A : Act) (hr : Region.ready md ops listed = []) (hA : a = A) (h : Q .normal A w) : Walk P md ops (NoPanic Q) z R 0 listed a w := by subst hA; exact walk_end hr h
/-- A place of a slice of bytes. -/
theorem place_at (g k n cap : Nat) (hk : k < n) (hn : n < 9223372036854775808) (w : World) : (Instr.indexAt 35 (.slice (some ⟨g, 0, none⟩) n cap) (.int .i64 (k : Int))).run Tryd.prog w = .ok (.pointer (some ⟨g, k, none⟩)) w := by
  have e2 : (sizeOf (Tryd.prog.elem 35)).run Tryd.prog w = .ok 1 w := by kernel_rfl
  have hu : Tryd.prog.underlying 35 = some (.slice (Tryd.prog.elem 35)) := by kernel_rfl
  have e3 : (⟨g, 0, none⟩ : Addr).add k = ⟨g, k, none⟩ := by unfold Addr.add; split <;> simp_all
  rw [run_indexAt_slice w _ _ _ _ _ _ hu]
  simp [hk, go_sem]
theorem ex_make {P : Program} {ρ : Operand → Value} {o : Oper} {w w' : World} (t : TypeId) (x y : Operand) (ho : o.op = .makeSlice t x y) {v u r : Value} (hx : ρ x = v) (hy : ρ y = u) (h : (Instr.makeSlice t v u).run P w = .ok r w') : (execOp ρ o).run P w = .ok (.value r) w' := by
  unfold execOp
  rw [ho]
  simp [hx, hy, h]
theorem ex_slice0 {P : Program} {ρ : Operand → Value} {o : Oper} {w : World} (t : TypeId) (x : Operand) (ho : o.op = .slice t x none none none) {v r : Value} (hx : ρ x = v) (he : (Instr.sliceAt t v none none none).run P w = .ok r w) : (execOp ρ o).run P w = .ok (.value r) w := by
  unfold execOp
  rw [ho]
  simp [hx, he]
theorem ex_convert_to {P : Program} {ρ : Operand → Value} {o : Oper} {w w' : World} (t u : TypeId) (x : Operand) (ho : o.op = .convert t u x) {v r : Value} (hx : ρ x = v) (he : (convert t u v).run P w = .ok r w') : (execOp ρ o).run P w = .ok (.value r) w' := by
  unfold execOp
  rw [ho]
  simp [hx, he]
end Go.Proofs.YtcbakfnpbhgjoaaDoor
