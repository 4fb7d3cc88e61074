/-
  What is written: write, Put8, Put16, Put32 and Put64, each by its walk.
-/
import Derived.Test.YtbimdlcgjpeheaaCurWalks
import Derived.Test.YtbimdlcgjpeheaaCurBytes
import Derived.Deep.OwnRows
import Derived.Laws.BytesArg
namespace Go.Proofs.Ytbimdlcgjpeheaa
open Go.ChangeShapes Go.WideShapes Go.ChangeAt Go.RowKit
set_option linter.unusedVariables false

/-- The array behind j rounds: the last j bytes of n stand at its end. -/
def rowF (n j i : Nat) : Value := .int .u8 ((if i < 8 - j then 0 else n / 256 ^ (7 - i) % 256 : Nat) : Int)
theorem rowF_start (n : Nat) : ∀ i, i < (#[Value.int IntKind.u8 0, Value.int IntKind.u8 0, Value.int IntKind.u8 0, Value.int IntKind.u8 0, Value.int IntKind.u8 0, Value.int IntKind.u8 0, Value.int IntKind.u8 0, Value.int IntKind.u8 0] : Array Value).size → (#[Value.int IntKind.u8 0, Value.int IntKind.u8 0, Value.int IntKind.u8 0, Value.int IntKind.u8 0, Value.int IntKind.u8 0, Value.int IntKind.u8 0, Value.int IntKind.u8 0, Value.int IntKind.u8 0] : Array Value)[i]? = some (rowF n 0 i) := by
  intro i hi
  have h8 : i < 8 := hi
  have e : rowF n 0 i = .int .u8 0 := by unfold rowF; rw [if_pos (by omega)]; rfl
  rw [e]
  obtain rfl | rfl | rfl | rfl | rfl | rfl | rfl | rfl : i = 0 ∨ i = 1 ∨ i = 2 ∨ i = 3 ∨ i = 4 ∨ i = 5 ∨ i = 6 ∨ i = 7 := by omega
  all_goals rfl
theorem rowF_step (n j p r : Nat) (hp : p + j = 7) (hr : r = n / 256 ^ j) : ∀ i, i < 8 → (if i = p then Value.int .u8 ((r : Int) % 256) else rowF n j i) = rowF n (j + 1) i := by
  intro i hi
  unfold rowF
  subst hr
  by_cases e : i = p
  · subst e
    rw [if_pos rfl, if_neg (by omega), show 7 - i = j by omega]
    exact val_int (by omega)
  · rw [if_neg e]
    by_cases h : i < 8 - j
    · rw [if_pos h, if_pos (by omega)]
    · rw [if_neg h, if_neg (by omega)]
theorem row_len : Try.prog.arrayLen 109 = 8 := by kernel_rfl
theorem row_under : Try.prog.underlying 109 = some (.array (Try.prog.arrayLen 109) (Try.prog.elem 109)) := by kernel_rfl
theorem row_size (w : World) : (sizeOf (Try.prog.elem 109)).run Try.prog w = .ok 1 w := by kernel_rfl
theorem row_slice (wr : World) (b q : Nat) (h : q < 8) :
    (Instr.sliceAt 109 (.pointer (some ⟨b, 0, none⟩)) (some (.int .i64 (q : Int))) none none).run Try.prog wr = .ok (.slice (some ⟨b, q, none⟩) (8 - q) (8 - q)) wr := by
  rw [run_sliceAt_array_l wr 109 ⟨b, 0, none⟩ row_under .i64 q (by omega) (by rw [row_len]; omega), row_size, row_len]
  unfold slicedAt
  simp only [Result.andThen_ok, Int.toNat_natCast, Nat.mul_one]
  rw [if_neg (by omega)]
  unfold Addr.add
  by_cases e : q = 0
  · subst e; rfl
  · simp [e]
theorem row_text (wr : World) (b n m q : Nat) (h : q + m = 8) (hr : wr.rowIs b 109 8 (rowF n m)) :
    (convert 45 9 (.slice (some ⟨b, q, none⟩) (8 - q) (8 - q))).run Try.prog wr = .ok (.string ⟨(be m n).toArray⟩) wr := by
  rw [← be_nums]
  refine run_convert_bytes_arg wr 45 5 Try.underlying45 Try.underlying5 b q (8 - q) (8 - q) _ (by rw [List.length_map, be_length]; omega) (fun i hi => ?_) 9 Try.underlying9
  rw [hr.cell (by omega), rowF, if_neg (by omega)]
  have e := be_get m n i (by omega)
  rw [List.getD_eq_getElem?_getD, List.getElem?_map, e]
  simp only [Option.map_some, Option.getD_some, Option.some.injEq]
  refine val_int ?_
  rw [show 7 - (q + i) = m - 1 - i by omega]
  simp


set_option maxHeartbeats 1000000 in
theorem write8_any (s : ByteArray) (n g m : Nat) (w : World) (hs : s.size ≤ 9223372036854775000) (hn : n ≤ 255) (h0 : 1 ≤ m) (hm : m ≤ 8) (hg : Blk w g 3 #[.int .i64 (m : Int)]) :
    Calls Try.prog 48 #[.string s, .int .u8 (n : Int), enough g] w fun e w' => e = .returned (.string (s ++ ⟨(be m n).toArray⟩)) ∧ Below w.heap.size w w' := by
  have G := Lib.hid hg
  have glt := hg.lt
  clear hg
  go_enter Try.func48, Try.ntmps48
  go_wp2
  go_loopw [8, 9] (fun x r wr => ∃ j : Nat, j ≤ m ∧ x = .int .i64 ((8 - j : Nat) : Int) ∧ r = .int .u64 ((n / 256 ^ j : Nat) : Int) ∧ Below w.heap.size w wr ∧ wr.rowIs w.heap.size 109 8 (rowF n j)) (fun x _ _ => (intOf x).toNat)
  case atStart => exact ⟨0, Nat.zero_le _, rfl, val_int (by simp), (Below.refl _ _).alloc (Nat.le_refl _) _, World.rowIs_alloc w _ _ _ (rowF_start n)⟩
  case round =>
    obtain ⟨j, hj, rfl, rfl, hB, hr⟩ := hrel
    have G' : Blk wr g 3 #[.int .i64 (m : Int)] := Blk.below G.out hB glt
    have GG := Lib.hid G'
    clear G'
    by_cases hlt : j < m
    · obtain ⟨p, hp⟩ : ∃ p, p + 1 = 8 - j := ⟨7 - j, by omega⟩
      obtain ⟨r, hrr⟩ : ∃ r, r = n / 256 ^ j := ⟨_, rfl⟩
      rw [← hp, ← hrr]
      have hp8 : p ≤ 7 := by omega
      have c1 : wr.cell? ⟨w.heap.size, p, none⟩ = some (rowF n j p) := hr.cell (by omega)
      have f1 := hr.frozen p
      unfold rowF at c1
      have q1 : p + j = 7 := by omega
      have HP := Lib.hid hp
      have HR := Lib.hid hrr
      have HB := Lib.hid hB
      have HRR := Lib.hid hr
      clear hp hrr hB hr
      go_wp2_with (go_at_call 66; (with_reducible refine (enough_f g m _ (by omega) _ GG.out).mono ?_); rintro e w' ⟨rfl, rfl⟩)
      go_roundw
      case rel => exact ⟨j + 1, by omega, val_int (by omega), val_int (by rw [HR.out, Nat.pow_succ, ← Nat.div_div_eq_div_mul]; rfl), HB.out.setCell (Nat.le_refl _) _, (HRR.out.set p _).congr (rowF_step n j p r (by omega) HR.out)⟩
      case measure => simp [intOf]
    · obtain rfl : m = j := by omega
      obtain ⟨q, hq⟩ : ∃ q, q = 8 - m := ⟨_, rfl⟩
      rw [← hq]
      have q1 : q + m = 8 := by omega
      have hsl := row_slice wr w.heap.size q (by omega)
      have hconv := row_text wr w.heap.size n m q q1 hr
      obtain ⟨t, ht⟩ : ∃ t : ByteArray, t = ⟨(be m n).toArray⟩ := ⟨_, rfl⟩
      have hts : t.size ≤ 8 := by rw [ht, be_size]; omega
      rw [← ht] at hconv
      have HT := Lib.hid ht
      have HB := Lib.hid hB
      clear hr hB hq ht
      go_wp2_with (go_at_call 66; (with_reducible refine (enough_t g m _ (by omega) (by omega) _ GG.out).mono ?_); rintro e w' ⟨rfl, rfl⟩)
      go_ret
      exact ⟨ret_str (by rw [HT.out]), HB.out⟩

theorem Put8_any (s : ByteArray) (n : Nat) (w : World) (hs : s.size ≤ 9223372036854775000) (hn : n ≤ 255) :
    Calls Try.prog 23 #[.string s, .int .u8 (n : Int)] w fun e w' => e = .returned (.string (s ++ ⟨(be 1 n).toArray⟩)) ∧ Below w.heap.size w w' := by
  have bn : Blk (w.alloc (.cells #[.int .i64 1] 3)) w.heap.size 3 #[.int .i64 ((1 : Nat) : Int)] := Blk.new _ _ _
  have BN := Lib.hid bn
  clear bn
  go_enter Try.func23, Try.ntmps23
  go_wp2_with (first
    | (go_at_call 49; (with_reducible refine (enoughFor_any 1 _).mono ?_); rintro e w' ⟨rfl, rfl⟩)
    | (go_at_call 48; (with_reducible refine (write8_any s n w.heap.size 1 _ hs hn (by omega) (by omega) BN.out).mono ?_); rintro e w1 ⟨rfl, hb⟩))
  go_ret; exact ⟨rfl, ((Below.refl _ _).alloc (Nat.le_refl _) _).trans (hb.mono (by simp))⟩





set_option maxHeartbeats 1000000 in
theorem write64_any (s : ByteArray) (n g m : Nat) (w : World) (hs : s.size ≤ 9223372036854775000) (hn : n ≤ 18446744073709551615) (h0 : 1 ≤ m) (hm : m ≤ 8) (hg : Blk w g 3 #[.int .i64 (m : Int)]) :
    Calls Try.prog 67 #[.string s, .int .u64 (n : Int), enough g] w fun e w' => e = .returned (.string (s ++ ⟨(be m n).toArray⟩)) ∧ Below w.heap.size w w' := by
  have G := Lib.hid hg
  have glt := hg.lt
  clear hg
  go_enter Try.func67, Try.ntmps67
  go_wp2
  go_loopw [8, 9] (fun x r wr => ∃ j : Nat, j ≤ m ∧ x = .int .i64 ((8 - j : Nat) : Int) ∧ r = .int .u64 ((n / 256 ^ j : Nat) : Int) ∧ Below w.heap.size w wr ∧ wr.rowIs w.heap.size 109 8 (rowF n j)) (fun x _ _ => (intOf x).toNat)
  case atStart => exact ⟨0, Nat.zero_le _, rfl, val_int (by simp), (Below.refl _ _).alloc (Nat.le_refl _) _, World.rowIs_alloc w _ _ _ (rowF_start n)⟩
  case round =>
    obtain ⟨j, hj, rfl, rfl, hB, hr⟩ := hrel
    have G' : Blk wr g 3 #[.int .i64 (m : Int)] := Blk.below G.out hB glt
    have GG := Lib.hid G'
    clear G'
    by_cases hlt : j < m
    · obtain ⟨p, hp⟩ : ∃ p, p + 1 = 8 - j := ⟨7 - j, by omega⟩
      obtain ⟨r, hrr⟩ : ∃ r, r = n / 256 ^ j := ⟨_, rfl⟩
      rw [← hp, ← hrr]
      have hp8 : p ≤ 7 := by omega
      have c1 : wr.cell? ⟨w.heap.size, p, none⟩ = some (rowF n j p) := hr.cell (by omega)
      have f1 := hr.frozen p
      unfold rowF at c1
      have q1 : p + j = 7 := by omega
      have HP := Lib.hid hp
      have HR := Lib.hid hrr
      have HB := Lib.hid hB
      have HRR := Lib.hid hr
      clear hp hrr hB hr
      go_wp2_with (go_at_call 66; (with_reducible refine (enough_f g m _ (by omega) _ GG.out).mono ?_); rintro e w' ⟨rfl, rfl⟩)
      go_roundw
      case rel => exact ⟨j + 1, by omega, val_int (by omega), val_int (by rw [HR.out, Nat.pow_succ, ← Nat.div_div_eq_div_mul]; rfl), HB.out.setCell (Nat.le_refl _) _, (HRR.out.set p _).congr (rowF_step n j p r (by omega) HR.out)⟩
      case measure => simp [intOf]
    · obtain rfl : m = j := by omega
      obtain ⟨q, hq⟩ : ∃ q, q = 8 - m := ⟨_, rfl⟩
      rw [← hq]
      have q1 : q + m = 8 := by omega
      have hsl := row_slice wr w.heap.size q (by omega)
      have hconv := row_text wr w.heap.size n m q q1 hr
      obtain ⟨t, ht⟩ : ∃ t : ByteArray, t = ⟨(be m n).toArray⟩ := ⟨_, rfl⟩
      have hts : t.size ≤ 8 := by rw [ht, be_size]; omega
      rw [← ht] at hconv
      have HT := Lib.hid ht
      have HB := Lib.hid hB
      clear hr hB hq ht
      go_wp2_with (go_at_call 66; (with_reducible refine (enough_t g m _ (by omega) (by omega) _ GG.out).mono ?_); rintro e w' ⟨rfl, rfl⟩)
      go_ret
      exact ⟨ret_str (by rw [HT.out]), HB.out⟩

theorem Put64_any (s : ByteArray) (n : Nat) (w : World) (hs : s.size ≤ 9223372036854775000) (hn : n ≤ 18446744073709551615) :
    Calls Try.prog 50 #[.string s, .int .u64 (n : Int)] w fun e w' => e = .returned (.string (s ++ ⟨(be 8 n).toArray⟩)) ∧ Below w.heap.size w w' := by
  have bn : Blk (w.alloc (.cells #[.int .i64 8] 3)) w.heap.size 3 #[.int .i64 ((8 : Nat) : Int)] := Blk.new _ _ _
  have BN := Lib.hid bn
  clear bn
  go_enter Try.func50, Try.ntmps50
  go_wp2_with (first
    | (go_at_call 49; (with_reducible refine (enoughFor_any 8 _).mono ?_); rintro e w' ⟨rfl, rfl⟩)
    | (go_at_call 67; (with_reducible refine (write64_any s n w.heap.size 8 _ hs hn (by omega) (by omega) BN.out).mono ?_); rintro e w1 ⟨rfl, hb⟩))
  go_ret; exact ⟨rfl, ((Below.refl _ _).alloc (Nat.le_refl _) _).trans (hb.mono (by simp))⟩
end Go.Proofs.Ytbimdlcgjpeheaa
