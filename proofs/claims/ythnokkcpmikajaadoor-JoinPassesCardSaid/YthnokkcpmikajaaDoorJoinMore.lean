/-
  More words for the laws of layer 10: structs compared, drafts' sizes, fronts of texts. No statement of the document is here.
-/
import Derived.Test.YthnokkcpmikajaaDoorJoinWorks
import Derived.Test.YthnokkcpmikajaaDoorJoinDraft
namespace Go.Proofs.YthnokkcpmikajaaDoor
open Go.ChangeShapes Go.WideShapes Go.ChangeAt Go.RowKit
set_option linter.unusedVariables false

theorem jn_zero (w : World) : (zeroValue 24).run Tryd.prog w = .ok (.agg #[.int .i64 0, .bool false, .int .i64 0, .int .u32 0, .int .u32 0, .string ⟨#[]⟩]) w := by kernel_rfl
theorem drv_info (d : Dr) (h : d.m.length = 20) : (Tryd.prog.info? 33).map (·.size) = some (drv d).size := by
  rw [show (drv d).size = 25 by simp [drv, h]]
  kernel_rfl
/-- Two structs compared, the answer given. -/
theorem wpList_agg_eq {ops : Array Oper} {rest : List Oper} {o : Oper} {a : Act} {w : World} {Q : Exit → Act → World → Prop} (hw : Region.wanted o (yielded ops a.tmps) = true) (t u : TypeId) (x y : Operand) (ho : o.op = .binOp .eql t x y u) (A C : Array Value) (hx : a.eval x = .agg A) (hy : a.eval y = .agg C)
    (hm : Tryd.prog.eqGuardType Tryd.prog.depth t = false) (B : Bool) (he : (Op.equalIn 10000 t (.agg A) (.agg C)).run Tryd.prog w = .ok B w) (h : wpList Tryd.prog ops Q rest (a.put o.dst (.bool B)) w) : wpList Tryd.prog ops Q (o :: rest) a w :=
  BigFrame.wpList_want hw fun _ hK => by
    unfold Oper.wp
    rw [ex_aggeq t u x y ho A C hx hy hm B he]
    exact hK _ _ h
theorem ex_aggne {ρ : Operand → Value} {o : Oper} {w : World} (t u : TypeId) (x y : Operand) (ho : o.op = .binOp .neq t x y u) (a b : Array Value) (hx : ρ x = .agg a) (hy : ρ y = .agg b) (hm : Tryd.prog.eqGuardType Tryd.prog.depth t = false) (B : Bool) (h : (Op.equalIn 10000 t (.agg a) (.agg b)).run Tryd.prog w = .ok B w) :
    (execOp ρ o).run Tryd.prog w = .ok (.value (.bool (!B))) w := by
  have g := run_eqGuard_agg (P := Tryd.prog) w .neq t x y a b hm
  have e := run_neq_struct (P := Tryd.prog) w t a b
  rw [h] at e
  unfold execOp
  rw [ho]
  simp [hx, hy, g, e]
theorem wpList_agg_ne {ops : Array Oper} {rest : List Oper} {o : Oper} {a : Act} {w : World} {Q : Exit → Act → World → Prop} (hw : Region.wanted o (yielded ops a.tmps) = true) (t u : TypeId) (x y : Operand) (ho : o.op = .binOp .neq t x y u) (A C : Array Value) (hx : a.eval x = .agg A) (hy : a.eval y = .agg C)
    (hm : Tryd.prog.eqGuardType Tryd.prog.depth t = false) (B : Bool) (he : (Op.equalIn 10000 t (.agg A) (.agg C)).run Tryd.prog w = .ok B w) (h : wpList Tryd.prog ops Q rest (a.put o.dst (.bool (!B))) w) : wpList Tryd.prog ops Q (o :: rest) a w :=
  BigFrame.wpList_want hw fun _ hK => by
    unfold Oper.wp
    rw [ex_aggne t u x y ho A C hx hy hm B he]
    exact hK _ _ h
/-- A front of a text, 100 bytes at most. -/
theorem front_100 (s : ByteArray) : ∃ (m : Nat) (z : ByteArray), z = s.extract 0 m ∧ z.size = m ∧ (if (100 : Int) < (s.size : Int) then (100 : Int) else (s.size : Int)) = (m : Int) ∧ (m : Int) ≤ s.size ∧ m ≤ 100 := by
  refine ⟨min s.size 100, _, rfl, ?_, ?_, ?_, ?_⟩
  · rw [ByteArray.size_extract]; omega
  · split <;> omega
  · omega
  · omega

/-- A front of a text, 40 bytes at most. -/
theorem front_40 (s : ByteArray) : ∃ (m : Nat) (z : ByteArray), z = s.extract 0 m ∧ z.size = m ∧ (if (40 : Int) < (s.size : Int) then (40 : Int) else (s.size : Int)) = (m : Int) ∧ (m : Int) ≤ s.size ∧ m ≤ 40 := by
  refine ⟨min s.size 40, _, rfl, ?_, ?_, ?_, ?_⟩
  · rw [ByteArray.size_extract]; omega
  · split <;> omega
  · omega
  · omega

end Go.Proofs.YthnokkcpmikajaaDoor
