/-
  Words for the laws of layer 13 that put a text together: a first byte, an array's bytes behind it; texts cut.
-/
import Derived.Test.YtbimdlcgjpeheaaCtrlWorks
import Derived.Test.YtbimdlcgjpeheaaCtrlOpen
import Derived.Test.YtbimdlcgjpeheaaByteMem
import Derived.Great.BuildSlice
import Derived.Laws.IdiomArrays
import Derived.Laws.Slices
import Derived.Laws.IdiomStrings
namespace Go.Proofs.Ytbimdlcgjpeheaa
open Go.ChangeShapes Go.WideShapes Go.ChangeAt Go.RowKit
set_option linter.unusedVariables false

theorem ex_rem8 {ρ : Operand → Value} {o : Oper} {w : World} (t u : TypeId) (x y : Operand) (ho : o.op = .binOp .rem t x y u) (a b c : Nat) (hx : ρ x = .int .u8 (a : Int)) (hy : ρ y = .int .u8 (b : Int)) (ht : Try.prog.underlying t = some (.int .u8)) (hb : b ≠ 0) (h : a % b = c) :
    (execOp ρ o).run Try.prog w = .ok (.value (.int .u8 (c : Int))) w := by
  subst h
  unfold execOp
  rw [ho]
  have e : (a : Int).tmod (b : Int) = (a : Int) % (b : Int) := Int.tmod_eq_emod_of_nonneg (by omega)
  simp [hx, hy, go_sem, hb, e]
theorem ex_strcat_s {ρ : Operand → Value} {o : Oper} {w : World} (t u : TypeId) (x y : Operand) (ho : o.op = .binOp .add t x y u) (a b c : ByteArray) (hx : ρ x = .string a) (hy : ρ y = .string b) (hz : a.size + b.size ≤ 9223372036854775807) (h : c = a ++ b) :
    (execOp ρ o).run Try.prog w = .ok (.value (.string c)) w := by
  subst h
  unfold execOp
  rw [ho]
  have hr := run_string_add_sum (P := Try.prog) w a b hz
  simp [hx, hy, eqGuard, Go.binOp, hr]
theorem byte_built (c : Int) (w : World) : (Instr.buildSlice 45 1 #[(0, .int .u8 c)]).run Try.prog w = .ok (.slice (some ⟨w.heap.size, 0, none⟩) 1 1) (w.alloc (.cells #[.int .u8 c] 5)) := by
  have hi := info8
  cases hq : Try.prog.info? 5 with
  | none => simp [hq] at hi
  | some ie =>
    simp [hq] at hi
    obtain ⟨hz, s1, _⟩ := hi
    have flat := Great.fill_flat [Value.int .u8 c] ((Array.range (1 * 1)).map ((Value.int .u8 0).cells[· % (Value.int .u8 0).cells.size]!)) (fun v hv => by obtain rfl := List.mem_singleton.1 hv; rfl) (by simp)
    exact run_buildSlice w _ _ 1 _ _ ie (.int .u8 0) (by kernel_rfl) hq hz (by rw [s1]; omega) (by rw [s1]; omega) (by rw [s1]; exact flat)
theorem ex_byte1 {ρ : Operand → Value} {o : Oper} {w : World} (x : Operand) (ho : o.op = .buildSlice 45 1 #[(0, x)]) (v : UInt8) (hx : ρ x = .int .u8 (v.toNat : Int)) :
    (execOp ρ o).run Try.prog w = .ok (.value (.slice (some ⟨w.heap.size, 0, none⟩) 1 1)) (w.alloc (.cells #[.int .u8 (v.toNat : Int)] 5)) := by
  have h := byte_built (v.toNat : Int) w
  unfold execOp
  rw [ho]
  simp [hx, h]
theorem one_txt (w : World) (g : Nat) (v : UInt8) (h : Blk w g 5 #[.int .u8 (v.toNat : Int)]) : (convert 45 9 (.slice (some ⟨g, 0, none⟩) 1 1)).run Try.prog w = .ok (.string (txt [v])) w := by
  refine bytes_text w g 1 1 [v] ⟨h.lt, fun j hj => ⟨?_, h.frozen j⟩⟩ rfl
  obtain rfl : j = 0 := by simp at hj; omega
  rw [h.cell 0]; rfl
theorem row_txt (w : World) (g n : Nat) (T : TypeId) (m : List UInt8) (hm : m.length = n) (h : Blk w g T (byv m)) : (convert 45 9 (.slice (some ⟨g, 0, none⟩) n n)).run Try.prog w = .ok (.string (txt m)) w :=
  bytes_text w g n n m ⟨h.lt, fun j hj => ⟨(h.cell j).trans (byv_get m j hj), h.frozen j⟩⟩ hm.symm
theorem all_12 (w : World) (g : Nat) : (Instr.sliceAt 44 (.pointer (some ⟨g, 0, none⟩)) none none none).run Try.prog w = .ok (.slice (some ⟨g, 0, none⟩) 12 12) w := by
  have hu : Try.prog.underlying 44 = some (.array (Try.prog.arrayLen 44) (Try.prog.elem 44)) := by kernel_rfl
  have hl : Try.prog.arrayLen 44 = 12 := by kernel_rfl
  have he : (sizeOf (Try.prog.elem 44)).run Try.prog w = .ok 1 w := by kernel_rfl
  rw [run_sliceAt_array_all w 44 ⟨g, 0, none⟩ hu, he]
  simp only [Result.andThen_ok, slicedAt, hl]
  rfl
theorem all_9 (w : World) (g : Nat) : (Instr.sliceAt 56 (.pointer (some ⟨g, 0, none⟩)) none none none).run Try.prog w = .ok (.slice (some ⟨g, 0, none⟩) 9 9) w := by
  have hu : Try.prog.underlying 56 = some (.array (Try.prog.arrayLen 56) (Try.prog.elem 56)) := by kernel_rfl
  have hl : Try.prog.arrayLen 56 = 9 := by kernel_rfl
  have he : (sizeOf (Try.prog.elem 56)).run Try.prog w = .ok 1 w := by kernel_rfl
  rw [run_sliceAt_array_all w 56 ⟨g, 0, none⟩ hu, he]
  simp only [Result.andThen_ok, slicedAt, hl]
  rfl
theorem front_cut (s Z : ByteArray) (K : Int) (k : Nat) (hK : K = (k : Int)) (hk : k ≤ s.size) (hZ : s.extract 0 k = Z) (w : World) : (Instr.sliceAt 9 (.string s) none (some (.int .i64 K)) none).run Try.prog w = .ok (.string Z) w := by
  subst hK hZ
  have l2 : (k : Int) ≤ (s.size : Int) := by omega
  simp [go_sem, l2]
end Go.Proofs.Ytbimdlcgjpeheaa
