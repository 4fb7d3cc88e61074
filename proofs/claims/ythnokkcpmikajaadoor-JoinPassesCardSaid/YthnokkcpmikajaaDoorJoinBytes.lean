/-
  More single operations for regions that draw their order: places of slices of bytes, remainders, fronts of texts, a byte laid anew. No statement of the document is here.
-/
import Derived.Test.YthnokkcpmikajaaDoorJoinMore
import Derived.Test.YthnokkcpmikajaaDoorByteMem
import Derived.Laws.Slices
namespace Go.Proofs.YthnokkcpmikajaaDoor
open Go Go.RowKit
set_option linter.unusedVariables false

/-- A place of a slice of bytes. -/
theorem place_at (g k n cap : Nat) (hk : k < n) (hn : n < 9223372036854775808) (w : World) : (Instr.indexAt 36 (.slice (some ⟨g, 0, none⟩) n cap) (.int .i64 (k : Int))).run Tryd.prog w = .ok (.pointer (some ⟨g, k, none⟩)) w := by
  have e2 : (sizeOf (Tryd.prog.elem 36)).run Tryd.prog w = .ok 1 w := by kernel_rfl
  have hu : Tryd.prog.underlying 36 = some (.slice (Tryd.prog.elem 36)) := by kernel_rfl
  have e3 : (⟨g, 0, none⟩ : Addr).add k = ⟨g, k, none⟩ := by unfold Addr.add; split <;> simp_all
  rw [run_indexAt_slice w _ _ _ _ _ _ hu]
  simp [hk, go_sem]
theorem ex_rem {ρ : Operand → Value} {o : Oper} {w : World} (t u : TypeId) (x y : Operand) (ho : o.op = .binOp .rem t x y u) (a b c : Nat) (hx : ρ x = .int .i64 (a : Int)) (hy : ρ y = .int .i64 (b : Int)) (ht : Tryd.prog.underlying t = some (.int .i64)) (hb : b ≠ 0) (hb' : b ≤ 1000) (hc : a % b = c) :
    (execOp ρ o).run Tryd.prog w = .ok (.value (.int .i64 (c : Int))) w := by
  subst hc
  unfold execOp
  rw [ho]
  simp [hx, hy, go_sem]
  rw [if_neg hb, Int.tmod_eq_emod_of_nonneg (by omega)]
theorem str_front (s : ByteArray) (k : Nat) (hk : k ≤ s.size) (w : World) : (Instr.sliceAt 9 (.string s) none (some (.int .i64 (k : Int))) none).run Tryd.prog w = .ok (.string (s.extract 0 k)) w := by
  have l2 : (k : Int) ≤ (s.size : Int) := by omega
  simp [go_sem, l2]
theorem store_byte (W : World) (g k : Nat) (x z : Int) (hc : W.cell? ⟨g, k, none⟩ = some (.int .u8 x)) (hf : W.frozen? ⟨g, k, none⟩ = false) : (storeVar 5 ⟨g, k, none⟩ (.int .u8 z)).run Tryd.prog W = .ok () (W.setCell ⟨g, k, none⟩ (.int .u8 z)) := by
  have hi : (Tryd.prog.info? 5).map (·.size) = some 1 := by kernel_rfl
  have hst : (store ((⟨g, k, none⟩ : Addr).add 0) (.int .u8 z)).run Tryd.prog W = .ok () (W.setCell ⟨g, k, none⟩ (.int .u8 z)) := by
    rw [show (⟨g, k, none⟩ : Addr).add 0 = ⟨g, k, none⟩ from rfl, run_store Tryd.prog W _ _ _ rfl, hc]
    simp [hf]
  cases hq : Tryd.prog.info? 5 with
  | none => rw [hq] at hi; cases hi
  | some i =>
    have hs : i.size = 1 := by simpa [hq] using hi
    simp [storeVar, sizeOf, typeInfo, hq, Value.cells, hs, storeCells, hst]
end Go.Proofs.YthnokkcpmikajaaDoor
