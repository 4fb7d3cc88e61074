/-
  What taker of package addr and its closure answer, each by its walk; what is to come of a text, in memory.
-/
import Derived.Test.YtcofdiamlmlhfaaAddrMap
import Derived.Test.YtcofdiamlmlhfaaAddrEnc
import Derived.Test.YtcofdiamlmlhfaaCurMoves
namespace Go.Proofs.Ytcofdiamlmlhfaa
open Go.ChangeShapes Go.WideShapes Go.ChangeAt Go.RowKit
set_option linter.unusedVariables false

/-- The closure that takes, as a value: what is to come lies in block g. -/
abbrev takeF (g : Nat) : Value := .func (.func 42) #[] #[.pointer (some ⟨g, 0, none⟩)]
theorem taker_any (s : ByteArray) (w : World) :
    Calls Try.prog 33 #[.string s] w fun e w' => e = .returned (takeF w.heap.size) ∧ Blk w' w.heap.size 9 #[.string s] ∧ Below w.heap.size w w' := by
  go_enter Try.func33, Try.ntmps33
  go_wp2_with fail
  go_ret
  exact ⟨rfl, Blk.new _ _ _, (Below.refl _ _).alloc (Nat.le_refl _) _⟩
theorem str_front (s : ByteArray) (k : Nat) (hk : k ≤ s.size) (w : World) : (Instr.sliceAt 9 (.string s) none (some (.int .i64 (k : Int))) none).run Try.prog w = .ok (.string (s.extract 0 k)) w := by
  have l2 : (k : Int) ≤ (s.size : Int) := by omega
  simp [go_sem, l2]
set_option maxHeartbeats 1000000 in
theorem take_any (g n : Nat) (s A B : ByteArray) (hs : s.size ≤ 9223372036854775807) (hn : n ≤ s.size) (hA : s.extract 0 n = A) (hB : s.extract n s.size = B) (w : World) (h : Blk w g 9 #[.string s]) :
    Calls Try.prog 42 #[.int .i64 (n : Int), .pointer (some ⟨g, 0, none⟩)] w fun e w' => e = .returned (.string A) ∧ w.grownBy w' (some g) ∧ Blk w' g 9 #[.string B] := by
  have c0 := h.cell 0
  have f0 := h.frozen 0
  simp only [List.getElem?_toArray, List.getElem?_cons_zero] at c0
  have n0 : (n : Int) ≤ (s.size : Int) := by omega
  have HH := Lib.hid h
  have HA := Lib.hid hA
  have HB := Lib.hid hB
  clear h hA hB
  go_enter Try.func42, Try.ntmps42
  go_wp2_with fail
  rw [HA.out, HB.out]
  go_ret
  refine ⟨rfl, only_setCell (.refl _ _) rfl _, ?_⟩
  have := HH.out.set_ 0 (.string B)
  simpa using this
end Go.Proofs.Ytcofdiamlmlhfaa
