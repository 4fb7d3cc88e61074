/-
  Words for a region that draws its order, of one kind for all packages: single operations (texts compared and put together, numbers compared, fields' places, a row loaded, a variable made), stores amid, three at once, the end. No statement of the document is here.
-/
import Derived.Test.YtbimdlcgjpeheaaWalkOps
import Derived.Test.YtbimdlcgjpeheaaSumWords
import Derived.Laws.Tables
import Derived.Laws.Concat
import Derived.Laws.StructEq
import Derived.Deep.DeepCutAuto
namespace Go.Proofs.Ytbimdlcgjpeheaa
open Go Go.RowKit
set_option linter.unusedVariables false

/-- The end, the act written out. -/
theorem held_end_at {P : Program} {ops : Array Oper} {S : World → Prop} {Q : Exit → Act → World → Prop} {md : Region.Mode} {listed : Array Bool} {a : Act} {w : World} (A : Act) (hr : Region.ready md ops listed = []) (hA : a = A) (h : Q .normal A w) : wpAnyH P md ops (NoPanic Q) S 0 listed a w := by subst hA; exact held_end hr h
theorem ex_streq {ρ : Operand → Value} {o : Oper} {w : World} (t u : TypeId) (x y : Operand) (ho : o.op = .binOp .eql t x y u) (a b : ByteArray) (hx : ρ x = .string a) (hy : ρ y = .string b) (ht : Try.prog.underlying t = some .string) (h : a = b) :
    (execOp ρ o).run Try.prog w = .ok (.value (.bool true)) w := by
  subst h
  unfold execOp
  rw [ho]
  simp [hx, hy, go_sem]
theorem ex_strneq {ρ : Operand → Value} {o : Oper} {w : World} (t u : TypeId) (x y : Operand) (ho : o.op = .binOp .neq t x y u) (a b : ByteArray) (hx : ρ x = .string a) (hy : ρ y = .string b) (ht : Try.prog.underlying t = some .string) (h : a = b) :
    (execOp ρ o).run Try.prog w = .ok (.value (.bool false)) w := by
  subst h
  unfold execOp
  rw [ho]
  simp [hx, hy, go_sem]
theorem ex_strcat {ρ : Operand → Value} {o : Oper} {w : World} (t u : TypeId) (x y : Operand) (ho : o.op = .binOp .add t x y u) (a b c : ByteArray) (hx : ρ x = .string a) (hy : ρ y = .string b) (ha : (a.size : Int) ≤ 8388608) (hb : (b.size : Int) ≤ 8388608) (h : c = a ++ b) :
    (execOp ρ o).run Try.prog w = .ok (.value (.string c)) w := by
  subst h
  unfold execOp
  rw [ho]
  have hr := run_string_add (P := Try.prog) w a b ha hb
  simp [hx, hy, eqGuard, Go.binOp, hr]
/-- A store that is not the last operation. -/
theorem do_skip {P : Program} {ops : Array Oper} {R : World → Prop} {Q : Exit → Act → World → Prop} {md : Region.Mode} {z fuel : Nat} {listed : Array Bool} {a : Act} {w : World} (i : Nat) {o : Oper} {w' : World} (hi : ops[i]? = some o) (hw : Region.wanted o (yielded ops a.tmps) = true)
    (he : (execOp a.eval o).run P w = .ok .skip w') (hR : R w') (h : Walk P md ops Q z R fuel (listed.setIfInBounds i true) (a.put o.dst undef) w') : Doing P md ops Q z R fuel listed i a w := by
  refine doing_of hi hw ?_
  unfold Oper.wp
  rw [he]
  exact ⟨.inr hR, h⟩
theorem walk_end_at {P : Program} {ops : Array Oper} {R : World → Prop} {Q : Exit → Act → World → Prop} {md : Region.Mode} {z : Nat} {listed : Array Bool} {a : Act} {w : World} (A : Act) (hr : Region.ready md ops listed = []) (hA : a = A) (h : Q .normal A w) : Walk P md ops (NoPanic Q) z R 0 listed a w := by subst hA; exact walk_end hr h
theorem ex_make {P : Program} {ρ : Operand → Value} {o : Oper} {w w' : World} (t : TypeId) (x y : Operand) (ho : o.op = .makeSlice t x y) {v u r : Value} (hx : ρ x = v) (hy : ρ y = u) (h : (Instr.makeSlice t v u).run P w = .ok r w') : (execOp ρ o).run P w = .ok (.value r) w' := by
  unfold execOp
  rw [ho]
  simp [hx, hy, h]
theorem ex_slice0 {P : Program} {ρ : Operand → Value} {o : Oper} {w : World} (t : TypeId) (x : Operand) (ho : o.op = .slice t x none none none) {v r : Value} (hx : ρ x = v) (he : (Instr.sliceAt t v none none none).run P w = .ok r w) : (execOp ρ o).run P w = .ok (.value r) w := by
  unfold execOp
  rw [ho]
  simp [hx, he]
theorem ex_convert_to {P : Program} {ρ : Operand → Value} {o : Oper} {w w' : World} (t u : TypeId) (x : Operand) (ho : o.op = .convert t u x) {v r : Value} (hx : ρ x = v) (he : (convert t u v).run P w = .ok r w') : (execOp ρ o).run P w = .ok (.value r) w' := by
  unfold execOp
  rw [ho]
  simp [hx, he]
theorem exec_row_ {P : Program} {o : Oper} {ρ : Operand → Value} {w : World} (ty : TypeId) (x : Operand) (ho : o.op = .load ty x) (g : Nat) (hx : ρ x = .pointer (some ⟨g, 0, none⟩)) (t : TypeId) (cs : Array Value) (fr : Nat × Nat) (d : TypeDesc) (hg : w.heap[g]? = some (.cells cs t fr))
    (hu : P.underlying ty = some d) (hd : (match d with | .struct _ | .array _ _ => true | _ => false) = true) (hi : (P.info? ty).map (·.size) = some cs.size) : (execOp ρ o).run P w = .ok (.value (.agg cs)) w := by
  unfold execOp
  simp only [ho, hx, Instr.loadAt, Instr.sureAddr, Sem.run_bind, Sem.run_pure, Result.andThen_ok, run_loadVar_row w g t ty cs fr d hg hu hd hi]
theorem ex_alloc {ρ : Operand → Value} {o : Oper} {w : World} (t : TypeId) (cs : Array Value) (ho : o.op = .alloc t) (hz : ∀ w, (zeroValue t).run Try.prog w = .ok (.agg cs) w) :
    (execOp ρ o).run Try.prog w = .ok (.value (.pointer (some ⟨w.heap.size, 0, none⟩))) (w.alloc (.cells cs t)) := by
  unfold execOp
  rw [ho]
  simp [Instr.alloc, hz, newVar, newRow, Value.cells]
theorem walk_three {P : Program} {ops : Array Oper} {R : World → Prop} {Q : Exit → Act → World → Prop} {md : Region.Mode} {z fuel : Nat} {listed : Array Bool} {a : Act} {w : World} (i j k : Nat) (hr : Region.ready md ops listed = [i, j, k])
    (hi : Doing P md ops Q z R fuel listed i a w) (hj : Doing P md ops Q z R fuel listed j a w) (hk : Doing P md ops Q z R fuel listed k a w) : Walk P md ops Q z R (fuel + 1) listed a w := by
  rw [Walk]
  refine ⟨fun h0 => absurd (hr.symm.trans h0) (by simp), fun m hm => ?_⟩
  rw [hr] at hm
  simp only [List.mem_cons, List.not_mem_nil, or_false] at hm
  rcases hm with rfl | rfl | rfl
  · exact hi.ok
  · exact hj.ok
  · exact hk.ok
theorem ex_field {P : Program} {ρ : Operand → Value} {o : Oper} {w : World} (t : TypeId) (x : Operand) (k : Nat) (ho : o.op = .fieldAddr t x k) {v r : Value} (hx : ρ x = v) (he : (Instr.fieldAt t v k).run P w = .ok r w) : (execOp ρ o).run P w = .ok (.value r) w := by
  unfold execOp
  rw [ho]
  simp [hx, he]
theorem ex_inteq {ρ : Operand → Value} {o : Oper} {w : World} (k : IntKind) (t u : TypeId) (x y : Operand) (ho : o.op = .binOp .eql t x y u) (a b : Int) (hx : ρ x = .int k a) (hy : ρ y = .int k b) (ht : Try.prog.underlying t = some (.int k)) (h : a = b) :
    (execOp ρ o).run Try.prog w = .ok (.value (.bool true)) w := by
  subst h
  unfold execOp
  rw [ho]
  simp [hx, hy, go_sem]
theorem ex_intneq {ρ : Operand → Value} {o : Oper} {w : World} (k : IntKind) (t u : TypeId) (x y : Operand) (ho : o.op = .binOp .neq t x y u) (a b : Int) (hx : ρ x = .int k a) (hy : ρ y = .int k b) (ht : Try.prog.underlying t = some (.int k)) (h : a = b) :
    (execOp ρ o).run Try.prog w = .ok (.value (.bool false)) w := by
  subst h
  unfold execOp
  rw [ho]
  simp [hx, hy, go_sem]
theorem ex_intne {ρ : Operand → Value} {o : Oper} {w : World} (k : IntKind) (t u : TypeId) (x y : Operand) (ho : o.op = .binOp .neq t x y u) (a b : Int) (hx : ρ x = .int k a) (hy : ρ y = .int k b) (ht : Try.prog.underlying t = some (.int k)) (h : a ≠ b) :
    (execOp ρ o).run Try.prog w = .ok (.value (.bool true)) w := by
  unfold execOp
  rw [ho]
  simp [hx, hy, go_sem, h]
theorem grown_of_below {a w w1 : World} {b : Nat} (h : a.grownBy w (some b)) (q : Below w.heap.size w w1) : a.grownBy w1 (some b) :=
  ⟨q.os.trans h.os, q.tape.trans h.tape, q.output.trans h.output, Nat.le_trans h.size q.size, fun k hk hne => (q.block k (Nat.lt_of_lt_of_le hk h.size)).trans (h.block k hk hne)⟩
/-- The end of a function that returns what is in a slot. -/
theorem ret_slot {P : Program} {fn : Func} {R : Ending → World → Prop} {a : Act} {w : World} (t : Tmp) (v : Value) (hf : fn.results = #[.tmp t]) (ht : a.tmps.getD t undef = v) (hd : a.defers = []) (hR : R (.returned v) w) : bodyPost P fn R .ret a w :=
  bodyPost_ret (by rw [results_tmp hf, ht]) hd hR
theorem ex_slice_front {P : Program} {ρ : Operand → Value} {o : Oper} {w : World} (t : TypeId) (x h : Operand) (ho : o.op = .slice t x none (some h) none) {v hv r : Value} (hx : ρ x = v) (hh : ρ h = hv) (he : (Instr.sliceAt t v none (some hv) none).run P w = .ok r w) :
    (execOp ρ o).run P w = .ok (.value r) w := by
  unfold execOp
  rw [ho]
  simp [hx, hh, he]
theorem ex_slice_back {P : Program} {ρ : Operand → Value} {o : Oper} {w : World} (t : TypeId) (x l : Operand) (ho : o.op = .slice t x (some l) none none) {v lv r : Value} (hx : ρ x = v) (hl : ρ l = lv) (he : (Instr.sliceAt t v (some lv) none none).run P w = .ok r w) :
    (execOp ρ o).run P w = .ok (.value r) w := by
  unfold execOp
  rw [ho]
  simp [hx, hl, he]
theorem bel_in {a b c : World} (h : Below a.heap.size a b) (q : Below b.heap.size b c) : Below a.heap.size a c := h.trans (q.mono h.size)
theorem put_none (a : Act) (v : Value) : a.put none v = a := rfl
theorem ex_intleb {ρ : Operand → Value} {o : Oper} {w : World} (k : IntKind) (t u : TypeId) (x y : Operand) (ho : o.op = .binOp .leq t x y u) (a b : Int) (hx : ρ x = .int k a) (hy : ρ y = .int k b) (ht : Try.prog.underlying t = some (.int k)) (B : Bool) (h : decide (a ≤ b) = B) :
    (execOp ρ o).run Try.prog w = .ok (.value (.bool B)) w := by
  subst h
  unfold execOp
  rw [ho]
  simp [hx, hy, go_sem]
theorem ex_inteqb {ρ : Operand → Value} {o : Oper} {w : World} (k : IntKind) (t u : TypeId) (x y : Operand) (ho : o.op = .binOp .eql t x y u) (a b : Int) (hx : ρ x = .int k a) (hy : ρ y = .int k b) (ht : Try.prog.underlying t = some (.int k)) (B : Bool) (h : decide (a = b) = B) :
    (execOp ρ o).run Try.prog w = .ok (.value (.bool B)) w := by
  subst h
  unfold execOp
  rw [ho]
  simp [hx, hy, go_sem, Bool.beq_eq_decide_eq]
theorem ex_streqb {ρ : Operand → Value} {o : Oper} {w : World} (t u : TypeId) (x y : Operand) (ho : o.op = .binOp .eql t x y u) (a b : ByteArray) (hx : ρ x = .string a) (hy : ρ y = .string b) (ht : Try.prog.underlying t = some .string) (B : Bool) (h : decide (a.toList = b.toList) = B) :
    (execOp ρ o).run Try.prog w = .ok (.value (.bool B)) w := by
  subst h
  unfold execOp
  rw [ho]
  simp [hx, hy, go_sem, Bool.beq_eq_decide_eq]
/-- A comparison of two structs, its answer given. -/
theorem ex_aggeq {ρ : Operand → Value} {o : Oper} {w : World} (t u : TypeId) (x y : Operand) (ho : o.op = .binOp .eql t x y u) (a b : Array Value) (hx : ρ x = .agg a) (hy : ρ y = .agg b) (hm : Try.prog.eqGuardType Try.prog.depth t = false) (B : Bool) (h : (Op.equalIn 10000 t (.agg a) (.agg b)).run Try.prog w = .ok B w) :
    (execOp ρ o).run Try.prog w = .ok (.value (.bool B)) w := by
  have g := run_eqGuard_agg (P := Try.prog) w .eql t x y a b hm
  have e := run_eql_struct (P := Try.prog) w t a b
  rw [h] at e
  unfold execOp
  rw [ho]
  simp [hx, hy, g, e]
theorem held_pass {P : Program} {ops : Array Oper} {S : World → Prop} {Q : Exit → Act → World → Prop} {md : Region.Mode} {fuel : Nat} {listed : Array Bool} {a : Act} {w : World} (i : Nat) {o : Oper} (hi : ops[i]? = some o) (hs : Region.noSelect ops = true) (hf : Region.free md ops listed i = true) (hr : (Region.ready md ops listed).contains i = true) (hw : Region.wanted o (yielded ops a.tmps) = false) (hS : S w)
    (h : wpAnyH P md ops (NoPanic Q) S fuel (listed.setIfInBounds i true) (a.put o.dst undef) w) : wpAnyH P md ops (NoPanic Q) S (fuel + 1) listed a w :=
  wpAnyH_take hi hs hf hr (fun c a w h => h) (.inr ⟨hw, rfl⟩) hS h
/-- A call, alone, whose answer is told by letters. -/
theorem held_call_ex {P : Program} {ops : Array Oper} {S : World → Prop} {Q : Exit → Act → World → Prop} {md : Region.Mode} {fuel : Nat} {listed : Array Bool} {a : Act} {w : World} (i : Nat) {o : Oper} {f : FuncId} {args : Array Value} {R : Value → World → Prop} (hi : ops[i]? = some o) (hr : Region.ready md ops listed = [i]) (hw : Region.wanted o (yielded ops a.tmps) = true)
    (he : (execOp a.eval o).run P w = .ok (.enter f args) w) (hc : Calls P f args w fun e w' => ∃ v, e = .returned v ∧ R v w') (hR : ∀ v w', R v w' → S w') (h : ∀ v w', R v w' → wpAnyH P md ops Q S fuel (listed.setIfInBounds i true) (a.put o.dst v) w') : wpAnyH P md ops Q S (fuel + 1) listed a w := by
  refine held_op hi hr hw ?_
  unfold Oper.wp
  rw [he]
  exact hc.mono fun e w' ⟨v, h1, h2⟩ => by subst h1; exact ⟨hR _ _ h2, h _ _ h2⟩
/-- A new variable of one cell. -/
theorem ex_alloc_cell {ρ : Operand → Value} {o : Oper} {w : World} (t : TypeId) (v : Value) (ho : o.op = .alloc t) (hv : v.cells = #[v]) (hz : ∀ w, (zeroValue t).run Try.prog w = .ok v w) :
    (execOp ρ o).run Try.prog w = .ok (.value (.pointer (some ⟨w.heap.size, 0, none⟩))) (w.alloc (.cells #[v] t)) := by
  unfold execOp
  rw [ho]
  simp [Instr.alloc, hz, newVar, newRow, hv]
theorem store_str (W : World) (g : Nat) (z s : ByteArray) (h : Blk W g 9 #[.string z]) : (storeVar 9 ⟨g, 0, none⟩ (.string s)).run Try.prog W = .ok () (W.setCell ⟨g, 0, none⟩ (.string s)) := by
  have hi : (Try.prog.info? 9).map (·.size) = some 1 := by kernel_rfl
  have hst : (store ((⟨g, 0, none⟩ : Addr).add 0) (.string s)).run Try.prog W = .ok () (W.setCell ⟨g, 0, none⟩ (.string s)) := by
    rw [show (⟨g, 0, none⟩ : Addr).add 0 = ⟨g, 0, none⟩ from rfl, run_store Try.prog W _ _ _ rfl, h.cell 0]
    simp [h.frozen 0]
  cases hq : Try.prog.info? 9 with
  | none => rw [hq] at hi; cases hi
  | some i =>
    have hs : i.size = 1 := by simpa [hq] using hi
    simp [storeVar, sizeOf, typeInfo, hq, Value.cells, hs, storeCells, hst]
theorem conv_i64_u8 (n : Int) (u : Nat) (h : n % 256 = (u : Int)) (w : World) : (convert 3 5 (.int .i64 n)).run Try.prog w = .ok (.int .u8 (u : Int)) w := by
  rw [run_convert_int w 3 5 .i64 _ (by kernel_rfl) (by kernel_rfl), show Try.prog.intKind 5 = .u8 by kernel_rfl, IntKind.wrap_u8, h]
end Go.Proofs.Ytbimdlcgjpeheaa
