/-
  Single operations of package key's regions: a slice of texts built, a field's place, a text bound to a method. No statement of the document is here.
-/
import Derived.Test.YtcbakfnpbhgjoaaDoorKeyWalks
import Derived.Test.YtcbakfnpbhgjoaaDoorTextOps
import Derived.Great.BuildSlice
namespace Go.Proofs.YtcbakfnpbhgjoaaDoor
open Go.RowKit
set_option linter.unusedVariables false

theorem texts_built (xs : List ByteArray) (h0 : 0 < xs.length) (h1 : xs.length ≤ 100) (parts : Array (Nat × Value)) (hp : parts.toList = ((xs.map Value.string).zipIdx 0).map fun x => (x.2, x.1)) (w : World) :
    (Instr.buildSlice 112 xs.length parts).run Tryd.prog w = .ok (.slice (some ⟨w.heap.size, 0, none⟩) xs.length xs.length) (w.alloc (.cells (xs.map Value.string).toArray 9)) := by
  have sz : (Tryd.prog.info? 9).map (·.size) = some 1 := by kernel_rfl
  have ze : (Tryd.prog.info? 9).map (·.zero.isSome) = some true := by kernel_rfl
  obtain ⟨ie, hi⟩ : ∃ ie, Tryd.prog.info? 9 = some ie := (Option.map_eq_some_iff.1 sz).imp fun _ h => h.1
  rw [hi] at sz ze
  have s1 : ie.size = 1 := Option.some.inj sz
  obtain ⟨z, hz⟩ := Option.isSome_iff_exists.1 (Option.some.inj ze)
  have flat := Great.fill_flat (xs.map Value.string) ((Array.range (xs.length * 1)).map (z.cells[· % z.cells.size]!)) (fun v hv => by obtain ⟨x, _, rfl⟩ := List.mem_map.1 hv; rfl) (by simp)
  exact run_buildSlice w _ _ xs.length parts _ ie z (by kernel_rfl) hi hz (by rw [s1]; omega) (by rw [s1]; omega) (by rw [hp, s1]; exact flat)
theorem ex_build2 {ρ : Operand → Value} {o : Oper} {w : World} (x y : Operand) (ho : o.op = .buildSlice 112 2 #[(0, x), (1, y)]) (a b : ByteArray) (hx : ρ x = .string a) (hy : ρ y = .string b) :
    (execOp ρ o).run Tryd.prog w = .ok (.value (.slice (some ⟨w.heap.size, 0, none⟩) 2 2)) (w.alloc (.cells ([a, b].map Value.string).toArray 9)) := by
  have h := texts_built [a, b] (by simp) (by simp) #[(0, .string a), (1, .string b)] (by simp [List.zipIdx]) w
  simp only [List.length_cons, List.length_nil] at h
  unfold execOp
  rw [ho]
  simp [hx, hy, h]
theorem ex_build3 {ρ : Operand → Value} {o : Oper} {w : World} (x y z : Operand) (ho : o.op = .buildSlice 112 3 #[(0, x), (1, y), (2, z)]) (a b c : ByteArray) (hx : ρ x = .string a) (hy : ρ y = .string b) (hz : ρ z = .string c) :
    (execOp ρ o).run Tryd.prog w = .ok (.value (.slice (some ⟨w.heap.size, 0, none⟩) 3 3)) (w.alloc (.cells ([a, b, c].map Value.string).toArray 9)) := by
  have h := texts_built [a, b, c] (by simp) (by simp) #[(0, .string a), (1, .string b), (2, .string c)] (by simp [List.zipIdx]) w
  simp only [List.length_cons, List.length_nil] at h
  unfold execOp
  rw [ho]
  simp [hx, hy, hz, h]
theorem ex_field {P : Program} {ρ : Operand → Value} {o : Oper} {w : World} (t : TypeId) (x : Operand) (k : Nat) (ho : o.op = .fieldAddr t x k) {v r : Value} (hx : ρ x = v) (he : (Instr.fieldAt t v k).run P w = .ok r w) : (execOp ρ o).run P w = .ok (.value r) w := by
  unfold execOp
  rw [ho]
  simp [hx, he]
theorem ex_inteq {ρ : Operand → Value} {o : Oper} {w : World} (k : IntKind) (t u : TypeId) (x y : Operand) (ho : o.op = .binOp .eql t x y u) (a b : Int) (hx : ρ x = .int k a) (hy : ρ y = .int k b) (ht : Tryd.prog.underlying t = some (.int k)) (h : a = b) :
    (execOp ρ o).run Tryd.prog w = .ok (.value (.bool true)) w := by
  subst h
  unfold execOp
  rw [ho]
  simp [hx, hy, go_sem]
theorem ex_intneq {ρ : Operand → Value} {o : Oper} {w : World} (k : IntKind) (t u : TypeId) (x y : Operand) (ho : o.op = .binOp .neq t x y u) (a b : Int) (hx : ρ x = .int k a) (hy : ρ y = .int k b) (ht : Tryd.prog.underlying t = some (.int k)) (h : a = b) :
    (execOp ρ o).run Tryd.prog w = .ok (.value (.bool false)) w := by
  subst h
  unfold execOp
  rw [ho]
  simp [hx, hy, go_sem]
theorem grown_of_below {a w w1 : World} {b : Nat} (h : a.grownBy w (some b)) (q : Below w.heap.size w w1) : a.grownBy w1 (some b) :=
  ⟨q.os.trans h.os, q.tape.trans h.tape, q.output.trans h.output, Nat.le_trans h.size q.size, fun k hk hne => (q.block k (Nat.lt_of_lt_of_le hk h.size)).trans (h.block k hk hne)⟩
/-- The end of a function that returns what is in a slot. -/
theorem ret_slot {P : Program} {fn : Func} {R : Ending → World → Prop} {a : Act} {w : World} (t : Tmp) (v : Value) (hf : fn.results = #[.tmp t]) (ht : a.tmps.getD t undef = v) (hd : a.defers = []) (hR : R (.returned v) w) : bodyPost P fn R .ret a w :=
  bodyPost_ret (by rw [results_tmp hf, ht]) hd hR
end Go.Proofs.YtcbakfnpbhgjoaaDoor
