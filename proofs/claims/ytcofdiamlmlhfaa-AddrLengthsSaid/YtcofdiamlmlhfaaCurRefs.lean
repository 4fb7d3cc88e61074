/-
  The document's own answers of layer 2 (plaitref02), each by its walk: Put, Take, Num, Left, End.
-/
import Derived.Test.YtcofdiamlmlhfaaCurMoves
import Derived.Test.YtcofdiamlmlhfaaCurMore
namespace Go.Proofs.Ytcofdiamlmlhfaa
open Go.ChangeShapes Go.WideShapes Go.ChangeAt Go.RowKit
set_option linter.unusedVariables false

theorem one_text (w : World) (c : Int) : (convert 38 9 (.slice (some ⟨w.heap.size, 0, none⟩) 1 1)).run Try.prog (w.alloc (.cells #[.int .u8 c] 5)) = .ok (.string ⟨#[UInt8.ofNat c.toNat]⟩) (w.alloc (.cells #[.int .u8 c] 5)) := by
  have h := run_convert_bytes_arg (P := Try.prog) (w.alloc (.cells #[.int .u8 c] 5)) 38 5 Try.underlying38 Try.underlying5 w.heap.size 0 1 1 [c] rfl (fun i hi => by
    obtain rfl : i = 0 := by omega
    exact (Blk.new w 5 #[.int .u8 c]).cell 0) 9 Try.underlying9
  exact h

set_option maxHeartbeats 1000000 in
theorem Put_ref (s : ByteArray) (n m : Nat) (w : World) (hs : s.size ≤ 9223372036854775000) (hn : n ≤ 18446744073709551615) (hm : m ≤ 8) :
    Calls Try.prog 28 #[.string s, .int .u64 (n : Int), .int .i64 (m : Int)] w fun e w' => e = .returned (.string (s ++ ⟨(be m n).toArray⟩)) ∧ Below w.heap.size w w' := by
  go_enter Try.func28, Try.ntmps28
  go_wp2
  go_loopw [1, 7, 8] (fun x t i wr => ∃ j : Nat, j ≤ m ∧ x = .int .u64 ((n / 256 ^ j : Nat) : Int) ∧ t = .string ⟨(be j n).toArray⟩ ∧ i = .int .i64 (j : Int) ∧ Below w.heap.size w wr) (fun _ _ i _ => m - (intOf i).toNat)
  case atStart => exact ⟨0, Nat.zero_le _, val_int (by simp), rfl, rfl, Below.refl _ _⟩
  case round =>
    obtain ⟨j, hj, rfl, rfl, rfl, hB⟩ := hrel
    obtain ⟨t, ht⟩ : ∃ t : ByteArray, t = ⟨(be j n).toArray⟩ := ⟨_, rfl⟩
    have hts : t.size ≤ 8 := by rw [ht, be_size]; omega
    obtain ⟨r, hr⟩ : ∃ r : Nat, r = n / 256 ^ j := ⟨_, rfl⟩
    have hrn : r ≤ 18446744073709551615 := by rw [hr]; exact Nat.le_trans (Nat.div_le_self _ _) hn
    rw [← ht, ← hr]
    by_cases hlt : j < m
    · have HT := Lib.hid ht
      have HR := Lib.hid hr
      have HB := Lib.hid hB
      have hconv := one_text wr ((r : Int) % 256)
      clear ht hr hB
      go_wp2
      go_roundw
      case rel => exact ⟨j + 1, by omega, val_int (by rw [HR.out, Nat.pow_succ, ← Nat.div_div_eq_div_mul]; rfl), by rw [HT.out]; exact congrArg Value.string (be_cons n j r HR.out), by go_num, HB.out.alloc HB.out.size _⟩
      case measure => simp [intOf]; omega
    · obtain rfl : m = j := by omega
      have HT := Lib.hid ht
      clear ht hr
      go_wp2
      go_ret
      exact ⟨ret_str (by rw [HT.out]), hB⟩

/-- The document's cursor in memory. -/
def Ref (w : World) (b : Nat) (s : ByteArray) (k : Nat) (br : Bool) : Prop := Blk w b 74 #[.string s, .int .i64 (k : Int), .bool br]
section
variable {w w' : World} {b : Nat} {s : ByteArray} {k : Nat} {br : Bool}
theorem Ref.c0 (h : Ref w b s k br) : w.cell? ⟨b, 0, none⟩ = some (.string s) := Blk.cell h 0
theorem Ref.c1 (h : Ref w b s k br) : w.cell? ⟨b, 1, none⟩ = some (.int .i64 (k : Int)) := Blk.cell h 1
theorem Ref.c2 (h : Ref w b s k br) : w.cell? ⟨b, 2, none⟩ = some (.bool br) := Blk.cell h 2
theorem Ref.fz (h : Ref w b s k br) (i : Nat) : w.frozen? ⟨b, i, none⟩ = false := Blk.frozen h i
theorem Ref.setAt (h : Ref w b s k br) (n : Nat) : Ref (w.setCell ⟨b, 1, none⟩ (.int .i64 (n : Int))) b s n br := Blk.set_ h 1 _
theorem Ref.setBr (h : Ref w b s k br) (c : Bool) : Ref (w.setCell ⟨b, 2, none⟩ (.bool c)) b s k c := Blk.set_ h 2 _
end
def MovedR (w w' : World) (b : Nat) (s : ByteArray) (k : Nat) (br : Bool) : Prop := w.grownBy w' (some b) ∧ Ref w' b s k br


theorem Take_ref_f (b : Nat) (s : ByteArray) (k : Nat) (n : Int) (w : World) (hs : s.size ≤ 9223372036854775807) (hk : k ≤ s.size) (hn : n < 0 ∨ (s.size : Int) - k < n) (h : Ref w b s k false) :
    Calls Try.prog 45 #[.pointer (some ⟨b, 0, none⟩), .int .i64 n] w fun e w' => e = .returned (.string ⟨#[]⟩) ∧ MovedR w w' b s k true := by
  have c0 := h.c0
  have c1 := h.c1
  have c2 := h.c2
  have f2 := h.fz 2
  have H := Lib.hid h
  clear h
  by_cases h0 : n < 0
  · clear hn
    have d0 : decide (n < 0) = true := by simp [h0]
    go_enter Try.func45, Try.ntmps45
    go_wp2
    go_quiet (fail)
    go_wp2
    go_ret; exact ⟨rfl, only_setCell (only_drewN (.refl _ _) _) rfl _, Ref.setBr (Blk.drewN H.out _) true⟩
  · have d0 : decide (n < 0) = false := by simp; omega
    have h1 : (s.size : Int) - (k : Int) < n := by omega
    have ew : IntKind.i64.wrap ((s.size : Int) - (k : Int)) = (s.size : Int) - (k : Int) := IntWalk.i64_in _ (by omega)
    have d1 : decide ((s.size : Int) - (k : Int) < n) = true := by simp [h1]
    clear hn
    go_enter Try.func45, Try.ntmps45
    go_wp2
    go_quiet (fail)
    clear ew
    go_wp2
    go_ret; exact ⟨rfl, only_setCell (only_drewN (.refl _ _) _) rfl _, Ref.setBr (Blk.drewN H.out _) true⟩
theorem Take_ref_br (b : Nat) (s : ByteArray) (k : Nat) (n : Int) (w : World) (h : Ref w b s k true) :
    Calls Try.prog 45 #[.pointer (some ⟨b, 0, none⟩), .int .i64 n] w fun e w' => e = .returned (.string ⟨#[]⟩) ∧ MovedR w w' b s k true := by
  have c2 := h.c2
  have f2 := h.fz 2
  have H := Lib.hid h
  clear h
  go_enter Try.func45, Try.ntmps45
  go_wp2
  go_quiet (fail)
  go_wp2
  go_ret; exact ⟨rfl, only_setCell (only_drewN (.refl _ _) _) rfl _, Ref.setBr (Blk.drewN H.out _) true⟩
theorem Take_ref_t (b : Nat) (s : ByteArray) (k n : Nat) (w : World) (hs : s.size ≤ 9223372036854775807) (hk : k + n ≤ s.size) (h : Ref w b s k false) :
    Calls Try.prog 45 #[.pointer (some ⟨b, 0, none⟩), .int .i64 (n : Int)] w fun e w' => e = .returned (.string (s.extract k (k + n))) ∧ MovedR w w' b s (k + n) false := by
  have c0 := h.c0
  have c1 := h.c1
  have c2 := h.c2
  have f1 := h.fz 1
  have H := Lib.hid h
  clear h
  have d0 : decide ((n : Int) < 0) = false := by simp
  have ew : IntKind.i64.wrap ((s.size : Int) - (k : Int)) = (s.size : Int) - (k : Int) := IntWalk.i64_in _ (by omega)
  have d1 : decide ((s.size : Int) - (k : Int) < (n : Int)) = false := by simp; omega
  go_enter Try.func45, Try.ntmps45
  go_wp2
  go_quiet (fail)
  clear ew d0 d1
  go_wp2
  have ew : IntKind.i64.wrap ((k : Int) + (n : Int) - (n : Int)) = (k : Int) := by rw [show (k : Int) + n - n = k by omega]; exact IntWalk.i64_in _ (by omega)
  have kn : (k : Int) ≤ (k : Int) + (n : Int) := by omega
  have kk : (k : Int) + (n : Int) ≤ (s.size : Int) := by omega
  have tn : ((k : Int) + (n : Int)).toNat = k + n := by omega
  go_quiet (fail)
  clear ew tn
  go_wp2
  go_ret
  exact ⟨rfl, only_drewN (only_setCell (only_drewN (.refl _ _) _) rfl _) _, Ref.setAt (Blk.drewN H.out _) (k + n)⟩
theorem Take_ref (b : Nat) (s : ByteArray) (k : Nat) (br : Bool) (n : Int) (w : World) (hs : s.size ≤ 9223372036854775807) (hk : k ≤ s.size) (h : Ref w b s k br) :
    Calls Try.prog 45 #[.pointer (some ⟨b, 0, none⟩), .int .i64 n] w fun e w' => e = .returned (.string (takeO s k br n)) ∧ MovedR w w' b s (posO s k br n) (brO s k br n) := by
  rcases fits_cases s k br n with ⟨rfl, hf⟩ | ⟨rfl, hn, hf⟩ | ⟨rfl, h0, h1, hf⟩
  · rw [takeO_f hf, posO_f hf, brO_f hf]
    exact Take_ref_br b s k n w h
  · rw [takeO_f hf, posO_f hf, brO_f hf]
    exact Take_ref_f b s k n w hs hk hn h
  · rw [takeO_t hf, posO_t hf, brO_t hf]
    obtain ⟨m, rfl⟩ := Int.eq_ofNat_of_zero_le h0
    exact Take_ref_t b s k m w hs (by omega) h

theorem Num_ref (b : Nat) (s : ByteArray) (k : Nat) (br : Bool) (m : Nat) (hm : m ≤ 8) (w : World) (hs : s.size ≤ 9223372036854775807) (hk : k ≤ s.size) (h : Ref w b s k br) :
    Calls Try.prog 37 #[.pointer (some ⟨b, 0, none⟩), .int .i64 (m : Int)] w fun e w' => e = .returned (.int .u64 (numO s k br m)) ∧ MovedR w w' b s (posO s k br m) (brO s k br m) := by
  obtain ⟨t, ht, hts, hnum⟩ : ∃ t, t = takeO s k br m ∧ t.size ≤ 8 ∧ numO s k br m = num t 0 t.size := by
    rcases fits_cases s k br m with ⟨rfl, hf⟩ | ⟨rfl, hn, hf⟩ | ⟨rfl, h0, h1, hf⟩
    · exact ⟨_, rfl, by rw [takeO_f hf]; decide, by rw [takeO_f hf, numO_f hf]; rfl⟩
    · exact ⟨_, rfl, by rw [takeO_f hf]; decide, by rw [takeO_f hf, numO_f hf]; rfl⟩
    · refine ⟨_, rfl, ?_, ?_⟩
      · rw [takeO_t hf, Int.toNat_natCast, size_extract s k m (by omega)]; exact hm
      · rw [takeO_t hf, Int.toNat_natCast, size_extract s k m (by omega), num_extract s k m (by omega), numO_t hf]
  have H := Lib.hid h
  have HN := Lib.hid hnum
  have HT := Lib.hid ht
  clear h hnum ht
  go_enter Try.func37, Try.ntmps37
  go_wp2_with (go_at_call 45; (with_reducible refine (Take_ref b s k br m _ hs hk H.out).mono ?_); rintro e w1 ⟨rfl, M1⟩; rw [← HT.out]; have HM := Lib.hid M1; clear M1)
  go_loop [6, 7] (fun x i => ∃ j : Nat, j ≤ t.size ∧ i = .int .i64 (j : Int) ∧ x = .int .u64 (num t 0 j : Int)) (fun _ i => t.size - (intOf i).toNat)
  case atStart => exact ⟨0, Nat.zero_le _, rfl, rfl⟩
  case round =>
    obtain ⟨j, hj, rfl, rfl⟩ := hrel
    by_cases hlt : j < t.size
    · have nb := num_le7 t 0 j (by omega)
      have hst := Lib.hid (num_step0 t j hlt)
      have hb := t[j].toNat_lt
      go_wp2
      go_round
      case rel => exact ⟨j + 1, by omega, by go_num, val_int (by rw [hst.out]; go_num)⟩
      case measure => simp [intOf]; omega
    · obtain rfl : t.size = j := by omega
      go_wp2
      go_ret
      exact ⟨ret_int (by rw [HN.out]), HM.out⟩
end Go.Proofs.Ytcofdiamlmlhfaa
