/-
  The document's own answers of layer 2 (plaitref02), each by its walk: Put, Take, Num, Left, End.
-/
import Derived.Test.YtcbakfnpbhgjoaaDoorCurMoves
import Derived.Test.YtcbakfnpbhgjoaaDoorCurMore
namespace Go.Proofs.YtcbakfnpbhgjoaaDoor
open Go.ChangeShapes Go.WideShapes Go.ChangeAt Go.RowKit
set_option linter.unusedVariables false

theorem one_text (w : World) (c : Int) : (convert 35 9 (.slice (some ⟨w.heap.size, 0, none⟩) 1 1)).run Tryd.prog (w.alloc (.cells #[.int .u8 c] 5)) = .ok (.string ⟨#[UInt8.ofNat c.toNat]⟩) (w.alloc (.cells #[.int .u8 c] 5)) := by
  have h := run_convert_bytes_arg (P := Tryd.prog) (w.alloc (.cells #[.int .u8 c] 5)) 35 5 Tryd.underlying35 Tryd.underlying5 w.heap.size 0 1 1 [c] rfl (fun i hi => by
    obtain rfl : i = 0 := by omega
    exact (Blk.new w 5 #[.int .u8 c]).cell 0) 9 Tryd.underlying9
  exact h

set_option maxHeartbeats 1000000 in
theorem Put_ref (s : ByteArray) (n m : Nat) (w : World) (hs : s.size ≤ 9223372036854775000) (hn : n ≤ 18446744073709551615) (hm : m ≤ 8) :
    Calls Tryd.prog 35 #[.string s, .int .u64 (n : Int), .int .i64 (m : Int)] w fun e w' => e = .returned (.string (s ++ ⟨(be m n).toArray⟩)) ∧ Below w.heap.size w w' := by
  go_enter Tryd.func35, Tryd.ntmps35
  go_wp2
  go_loopw [1, 7, 8] (fun x t i wr => ∃ j : Nat, j ≤ m ∧ x = .int .u64 ((n / 256 ^ j : Nat) : Int) ∧ t = .string ⟨(be j n).toArray⟩ ∧ i = .int .i64 (j : Int) ∧ Below w.heap.size w wr) (fun _ _ i _ => m - (intOf i).toNat)
  case atStart => exact ⟨0, Nat.zero_le _, val_int (by simp), rfl, rfl, Below.refl _ _⟩
  case round =>
    obtain ⟨j, hj, rfl, rfl, rfl, hB⟩ := hrel
    obtain ⟨t, ht⟩ : ∃ t : ByteArray, t = ⟨(be j n).toArray⟩ := ⟨_, rfl⟩
    have hts : t.size ≤ 8 := by rw [ht, be_size]; omega
    obtain ⟨r, hr⟩ : ∃ r : Nat, r = n / 256 ^ j := ⟨_, rfl⟩
    have hrn : r ≤ 18446744073709551615 := by rw [hr]; exact Nat.le_trans (Nat.div_le_self _ _) hn
    rw [← ht, ← hr]
    by_cases hlt : j < m
    · have HT := Lib.hid ht
      have HR := Lib.hid hr
      have HB := Lib.hid hB
      have hconv := one_text wr ((r : Int) % 256)
      clear ht hr hB
      go_wp2
      go_roundw
      case rel => exact ⟨j + 1, by omega, val_int (by rw [HR.out, Nat.pow_succ, ← Nat.div_div_eq_div_mul]; rfl), by rw [HT.out]; exact congrArg Value.string (be_cons n j r HR.out), by go_num, HB.out.alloc HB.out.size _⟩
      case measure => simp [intOf]; omega
    · obtain rfl : m = j := by omega
      have HT := Lib.hid ht
      clear ht hr
      go_wp2
      go_ret
      exact ⟨ret_str (by rw [HT.out]), hB⟩

section
variable {w w' : World} {b : Nat} {s : ByteArray} {k : Nat} {br : Bool}
end



end Go.Proofs.YtcbakfnpbhgjoaaDoor
