/-
  Plain facts on the bytes of a number and on texts, for layer 2. Nothing of the program is here.
-/
import Derived.Test.YtbimdlcgjpeheaaCurPlain
import Derived.Laws.BytesArg
namespace Go.Proofs.Ytbimdlcgjpeheaa
set_option linter.unusedVariables false
theorem be_nums (m n : Nat) : strOfNums ((be m n).map fun c => (c.toNat : Int)) = ⟨(be m n).toArray⟩ := by
  unfold strOfNums
  rw [List.map_map]
  congr 2
  conv => rhs; rw [← List.map_id (be m n)]
  apply List.map_congr_left
  intro x _
  simp
theorem be_size (m n : Nat) : (⟨(be m n).toArray⟩ : ByteArray).size = m := by
  show (be m n).toArray.size = m
  simp [be_length]
end Go.Proofs.Ytbimdlcgjpeheaa
