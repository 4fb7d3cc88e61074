/-
  More words for the laws of layer 12: structs compared, drafts' sizes, fronts of texts, places of slices of bytes, remainders, the lesser one of two numbers, a byte laid anew. No statement of the document is here.
-/
import Derived.Test.YtcofdiamlmlhfaaAddrWorks
import Derived.Test.YtcofdiamlmlhfaaAddrDraft
import Derived.Test.YtcofdiamlmlhfaaByteMem
import Derived.Test.YtcofdiamlmlhfaaPureOps
import Derived.Laws.Slices
import Derived.Laws.Small
namespace Go.Proofs.Ytcofdiamlmlhfaa
open Go.ChangeShapes Go.WideShapes Go.ChangeAt Go.RowKit
set_option linter.unusedVariables false

theorem ad_zero (w : World) : (zeroValue 23).run Try.prog w = .ok (.agg #[.bool false, .int .i64 0, .string ⟨#[]⟩, .bool false, .int .i64 0, .string ⟨#[]⟩]) w := by kernel_rfl
theorem drv_info (d : Dr) (h : d.b.length = 24) : (Try.prog.info? 35).map (·.size) = some (drv d).size := by
  rw [show (drv d).size = 29 by simp [drv, h]]
  kernel_rfl
/-- Two structs compared, the answer given. -/
theorem wpList_agg_eq {ops : Array Oper} {rest : List Oper} {o : Oper} {a : Act} {w : World} {Q : Exit → Act → World → Prop} (hw : Region.wanted o (yielded ops a.tmps) = true) (t u : TypeId) (x y : Operand) (ho : o.op = .binOp .eql t x y u) (A C : Array Value) (hx : a.eval x = .agg A) (hy : a.eval y = .agg C)
    (hm : Try.prog.eqGuardType Try.prog.depth t = false) (B : Bool) (he : (Op.equalIn 10000 t (.agg A) (.agg C)).run Try.prog w = .ok B w) (h : wpList Try.prog ops Q rest (a.put o.dst (.bool B)) w) : wpList Try.prog ops Q (o :: rest) a w :=
  BigFrame.wpList_want hw fun _ hK => by
    unfold Oper.wp
    rw [ex_aggeq t u x y ho A C hx hy hm B he]
    exact hK _ _ h
theorem ex_aggne {ρ : Operand → Value} {o : Oper} {w : World} (t u : TypeId) (x y : Operand) (ho : o.op = .binOp .neq t x y u) (a b : Array Value) (hx : ρ x = .agg a) (hy : ρ y = .agg b) (hm : Try.prog.eqGuardType Try.prog.depth t = false) (B : Bool) (h : (Op.equalIn 10000 t (.agg a) (.agg b)).run Try.prog w = .ok B w) :
    (execOp ρ o).run Try.prog w = .ok (.value (.bool (!B))) w := by
  have g := run_eqGuard_agg (P := Try.prog) w .neq t x y a b hm
  have e := run_neq_struct (P := Try.prog) w t a b
  rw [h] at e
  unfold execOp
  rw [ho]
  simp [hx, hy, g, e]
theorem wpList_agg_ne {ops : Array Oper} {rest : List Oper} {o : Oper} {a : Act} {w : World} {Q : Exit → Act → World → Prop} (hw : Region.wanted o (yielded ops a.tmps) = true) (t u : TypeId) (x y : Operand) (ho : o.op = .binOp .neq t x y u) (A C : Array Value) (hx : a.eval x = .agg A) (hy : a.eval y = .agg C)
    (hm : Try.prog.eqGuardType Try.prog.depth t = false) (B : Bool) (he : (Op.equalIn 10000 t (.agg A) (.agg C)).run Try.prog w = .ok B w) (h : wpList Try.prog ops Q rest (a.put o.dst (.bool (!B))) w) : wpList Try.prog ops Q (o :: rest) a w :=
  BigFrame.wpList_want hw fun _ hK => by
    unfold Oper.wp
    rw [ex_aggne t u x y ho A C hx hy hm B he]
    exact hK _ _ h
/-- A front of a text, n bytes at most. -/
theorem front_n (n : Nat) (s : ByteArray) : ∃ (m : Nat) (z : ByteArray), z = s.extract 0 m ∧ z.size = m ∧ (if (n : Int) < (s.size : Int) then (n : Int) else (s.size : Int)) = (m : Int) ∧ (m : Int) ≤ s.size ∧ m ≤ n := by
  refine ⟨min s.size n, _, rfl, ?_, ?_, ?_, ?_⟩
  · rw [ByteArray.size_extract]; omega
  · split <;> omega
  · omega
  · omega
theorem ex_min {P : Program} {ρ : Operand → Value} {o : Oper} {w : World} (x y : Operand) (t u : TypeId) (ho : o.op = .call { callee := .builtin .min, args := #[x, y], argTypes := #[t, u] }) (a b m : Int) (hx : ρ x = .int .i64 a) (hy : ρ y = .int .i64 b) (hm : (if b < a then b else a) = m) :
    (execOp ρ o).run P w = .ok (.value (.int .i64 m)) w := by
  have hr := run_min_int2 (P := P) (w := w) #[t, u] o.type .i64 .i64 a b
  rw [hm] at hr
  unfold execOp
  simp only [ho, resolve, invoke, builtin, Sem.run_bind, Sem.run_pure, Result.andThen_ok, List.map_toArray, List.map_cons, List.map_nil, hx, hy, hr]
/-- A place of a slice of bytes. -/
theorem place_at (g k n cap : Nat) (hk : k < n) (hn : n < 9223372036854775808) (w : World) : (Instr.indexAt 38 (.slice (some ⟨g, 0, none⟩) n cap) (.int .i64 (k : Int))).run Try.prog w = .ok (.pointer (some ⟨g, k, none⟩)) w := by
  have e2 : (sizeOf (Try.prog.elem 38)).run Try.prog w = .ok 1 w := by kernel_rfl
  have hu : Try.prog.underlying 38 = some (.slice (Try.prog.elem 38)) := by kernel_rfl
  have e3 : (⟨g, 0, none⟩ : Addr).add k = ⟨g, k, none⟩ := by unfold Addr.add; split <;> simp_all
  rw [run_indexAt_slice w _ _ _ _ _ _ hu]
  simp [hk, go_sem]
theorem ex_rem {ρ : Operand → Value} {o : Oper} {w : World} (t u : TypeId) (x y : Operand) (ho : o.op = .binOp .rem t x y u) (a b c : Nat) (hx : ρ x = .int .i64 (a : Int)) (hy : ρ y = .int .i64 (b : Int)) (ht : Try.prog.underlying t = some (.int .i64)) (hb : b ≠ 0) (hb' : b ≤ 1000) (hc : a % b = c) :
    (execOp ρ o).run Try.prog w = .ok (.value (.int .i64 (c : Int))) w := by
  subst hc
  unfold execOp
  rw [ho]
  simp [hx, hy, go_sem]
  rw [if_neg hb, Int.tmod_eq_emod_of_nonneg (by omega)]
theorem store_byte (W : World) (g k : Nat) (x z : Int) (hc : W.cell? ⟨g, k, none⟩ = some (.int .u8 x)) (hf : W.frozen? ⟨g, k, none⟩ = false) : (storeVar 5 ⟨g, k, none⟩ (.int .u8 z)).run Try.prog W = .ok () (W.setCell ⟨g, k, none⟩ (.int .u8 z)) := by
  have hi : (Try.prog.info? 5).map (·.size) = some 1 := by kernel_rfl
  have hst : (store ((⟨g, k, none⟩ : Addr).add 0) (.int .u8 z)).run Try.prog W = .ok () (W.setCell ⟨g, k, none⟩ (.int .u8 z)) := by
    rw [show (⟨g, k, none⟩ : Addr).add 0 = ⟨g, k, none⟩ from rfl, run_store Try.prog W _ _ _ rfl, hc]
    simp [hf]
  cases hq : Try.prog.info? 5 with
  | none => rw [hq] at hi; cases hi
  | some i =>
    have hs : i.size = 1 := by simpa [hq] using hi
    simp [storeVar, sizeOf, typeInfo, hq, Value.cells, hs, storeCells, hst]
end Go.Proofs.Ytcofdiamlmlhfaa
