/-
  A text in hexadecimal digits (the law's own 'digits'), by its walk.
-/
import Derived.Test.YtcbakfnpbhgjoaaDoorHmacBegun
import Derived.Test.YtcbakfnpbhgjoaaDoorHeldSteps
namespace Go.Proofs.YtcbakfnpbhgjoaaDoor
open Go.ChangeShapes Go.WideShapes Go.ChangeAt Go.RowKit
set_option linter.unusedVariables false

/-- A digit. -/
def hexd (n : Nat) : UInt8 := ([48, 49, 50, 51, 52, 53, 54, 55, 56, 57, 97, 98, 99, 100, 101, 102] : List UInt8).getD n 0
def hexs (l : List UInt8) : List UInt8 := l.flatMap fun b => [hexd (b.toNat / 16), hexd (b.toNat % 16)]
theorem hexs_length (l : List UInt8) : (hexs l).length = 2 * l.length := by
  induction l with
  | nil => rfl
  | cons b l ih => simp [hexs] at ih ⊢; omega
theorem hexs_take (l : List UInt8) (j : Nat) (h : j < l.length) : hexs (l.take (j + 1)) = hexs (l.take j) ++ [hexd (l[j].toNat / 16), hexd (l[j].toNat % 16)] := by
  rw [List.take_succ_eq_append_getElem h, hexs, List.flatMap_append]; rfl
/-- A digit out of the text of digits. -/
theorem hex_at (n : Nat) (h : n < 16) (w : World) : (Instr.index 9 (.string ⟨#[48, 49, 50, 51, 52, 53, 54, 55, 56, 57, 97, 98, 99, 100, 101, 102]⟩) (.int .u8 (n : Int))).run Tryd.prog w = .ok (.int .u8 ((hexd n).toNat : Int)) w := by
  have all : ∀ m : _root_.Fin 16, ((⟨#[48, 49, 50, 51, 52, 53, 54, 55, 56, 57, 97, 98, 99, 100, 101, 102]⟩ : ByteArray)[m.val]'(m.isLt)) = hexd m.val := by decide +kernel
  rw [run_index_string w _ _ _ _ Tryd.underlying9, dif_pos ⟨by omega, by show (n : Int) < 16; omega⟩]
  have := all ⟨n, h⟩
  simp only [Int.toNat_natCast] at this ⊢
  rw [this]
theorem exec_index {P : Program} {ρ : Operand → Value} {o : Oper} {w : World} {t : TypeId} {x y : Operand} {n i v : Value} (ho : o.op = .index t x y) (hx : ρ x = n) (hy : ρ y = i) (h : (Instr.index t n i).run P w = .ok v w) : (execOp ρ o).run P w = .ok (.value v) w := by
  unfold execOp
  rw [ho]
  simp [hx, hy, h]
/-- A byte of a text. -/
theorem byte_at (s : ByteArray) (k : Nat) (h : k < s.size) (w : World) : (Instr.index 9 (.string s) (.int .i64 (k : Int))).run Tryd.prog w = .ok (.int .u8 ((s.data.toList[k]'(by rw [len_data]; exact h)).toNat : Int)) w := by
  rw [run_index_string w _ _ _ _ Tryd.underlying9, dif_pos ⟨by omega, by omega⟩]
  simp only [Int.toNat_natCast, Array.getElem_toList]
  rfl

end Go.Proofs.YtcbakfnpbhgjoaaDoor
