/-
  Plain facts for layer 13: the bodies of the four small options, what a text is as one of them, and why it is none; what was laid is read, what was read is laid again. Nothing of the program is here.
-/
import Derived.Test.YtbimdlcgjpeheaaNumBytes
namespace Go.Proofs.Ytbimdlcgjpeheaa
set_option linter.unusedVariables false

theorem none_and (a : ByteArray) : (⟨#[]⟩ : ByteArray) ++ a = a := by apply ByteArray.ext; rw [ByteArray.data_append]; simp
theorem be_len (m n : Nat) : (txt (be m n)).size = m := by rw [txt_size, be_length]
theorem byte_of (n : Nat) (h : n < 256) : (UInt8.ofNat n).toNat = n := by rw [UInt8.toNat_ofNat']; exact Nat.mod_eq_of_lt h
theorem empty_of (s : ByteArray) (h : s.size = 0) : s = ⟨#[]⟩ := ByteArray.ext (Array.eq_empty_of_size_eq_zero h)
theorem byteAt_txt (l : List UInt8) (i : Nat) : byteAt (txt l) i = (l.getD i 0).toNat := rfl

/-! ### Whether a text is a body -/
/-- Whether m bytes are too few, or too many, where there must be n. -/
def fit (n m : Nat) : Int := if m < n then 4 else if n < m then 5 else 0
theorem fit_iff (n m : Nat) : fit n m = 0 ↔ m = n := by unfold fit; (repeat' split) <;> omega
theorem fit_le (n m : Nat) : 0 ≤ fit n m ∧ fit n m ≤ 5 := by unfold fit; (repeat' split) <;> omega
/-- Why a text is no body of the subtype k, of n bytes; 0 where it is one. -/
def wrong (k n : Nat) (s : ByteArray) : Int := if s.size = 0 then 4 else if byteAt s 0 / 16 = k then fit n s.size else 7
theorem wrong_0 (k n : Nat) (s : ByteArray) (h : s.size = 0) : wrong k n s = 4 := by unfold wrong; rw [if_pos h]
theorem wrong_7 (k n : Nat) (s : ByteArray) (h : s.size ≠ 0) (hk : byteAt s 0 / 16 ≠ k) : wrong k n s = 7 := by unfold wrong; rw [if_neg h, if_neg hk]
theorem wrong_in (k n : Nat) (s : ByteArray) (h : s.size ≠ 0) (hk : byteAt s 0 / 16 = k) : wrong k n s = fit n s.size := by unfold wrong; rw [if_neg h, if_pos hk]
theorem wrong_iff (k n : Nat) (s : ByteArray) (hn : n ≠ 0) : wrong k n s = 0 ↔ s.size = n ∧ byteAt s 0 / 16 = k := by
  unfold wrong
  split
  · constructor
    · intro h; exact absurd h (by decide)
    · rintro ⟨h, _⟩; omega
  · split
    · rw [fit_iff]
      constructor
      · intro h; exact ⟨h, by assumption⟩
      · exact fun h => h.1
    · constructor
      · intro h; exact absurd h (by decide)
      · rintro ⟨_, h⟩; contradiction
theorem wrong_le (k n : Nat) (s : ByteArray) : 0 ≤ wrong k n s ∧ wrong k n s ≤ 7 := by
  unfold wrong
  have := fit_le n s.size
  (repeat' split) <;> omega

/-! ### The bodies -/
def prioT (b : Bool) : ByteArray := txt [if b then 81 else 80]
def numT (k n : Nat) : ByteArray := txt (UInt8.ofNat (k * 16) :: 0 :: be 8 n)
def rstT (f r : Nat) : ByteArray := txt [UInt8.ofNat (128 + f), UInt8.ofNat r]
/-- A Rst that may be. -/
abbrev May (f r : Int) : Prop := (0 ≤ f ∧ f ≤ 15) ∧ (0 ≤ r ∧ r ≤ 255)
/-- What a Rst is laid as, and why it is not. -/
def encT (f r : Int) : ByteArray × Int := if May f r then (rstT f.toNat r.toNat, 0) else (⟨#[]⟩, 2)
theorem encT_t (f r : Int) (h : May f r) : encT f r = (rstT f.toNat r.toNat, 0) := if_pos h
theorem encT_f (f r : Int) (h : ¬ May f r) : encT f r = (⟨#[]⟩, 2) := if_neg h
theorem prioT_size (b : Bool) : (prioT b).size = 1 := by rw [prioT, txt_size]; rfl
theorem numT_size (k n : Nat) : (numT k n).size = 10 := by rw [numT, txt_size]; simp [be_length]
theorem rstT_size (f r : Nat) : (rstT f r).size = 2 := by rw [rstT, txt_size]; rfl
theorem encT_size (f r : Int) : (encT f r).1.size ≤ 2 := by
  unfold encT; split
  · rw [rstT_size]; omega
  · exact Nat.zero_le _

/-! ### What a text is -/
def gotP (s : ByteArray) : Bool := byteAt s 0 % 2 == 1
/-- A Prio's Backup; a number; a Rst's Flags, its Reason. -/
def decP (s : ByteArray) : Bool := if wrong 5 1 s = 0 then gotP s else false
def decN (k : Nat) (s : ByteArray) : Nat := if wrong k 10 s = 0 then num s 2 8 else 0
def decF (s : ByteArray) : Nat := if wrong 8 2 s = 0 then byteAt s 0 % 16 else 0
def decR (s : ByteArray) : Nat := if wrong 8 2 s = 0 then byteAt s 1 else 0
theorem decN_le (k : Nat) (s : ByteArray) : decN k s ≤ 18446744073709551615 := by
  unfold decN; split
  · have := num_lt s 2 8; omega
  · omega

/-! ### What was laid is read -/
theorem prio_wrong (b : Bool) : wrong 5 1 (prioT b) = 0 := by
  rw [wrong_iff _ _ _ (by decide)]
  exact ⟨prioT_size b, by cases b <;> rfl⟩
theorem prio_got (b : Bool) : decP (prioT b) = b := by
  unfold decP; rw [if_pos (prio_wrong b)]; cases b <;> rfl
theorem num_wrong (k n : Nat) (hk : k < 16) : wrong k 10 (numT k n) = 0 := by
  rw [wrong_iff _ _ _ (by decide)]
  refine ⟨numT_size k n, ?_⟩
  rw [numT, byteAt_txt, List.getD_cons_zero, byte_of _ (by omega)]
  omega
theorem num_got (k n : Nat) (hk : k < 16) (hn : n ≤ 18446744073709551615) : decN k (numT k n) = n := by
  unfold decN; rw [if_pos (num_wrong k n hk)]
  have h := num_mid [UInt8.ofNat (k * 16), 0] [] 2 8 n rfl
  rw [List.append_nil] at h
  show num (txt ([UInt8.ofNat (k * 16), 0] ++ be 8 n)) 2 8 = n
  rw [h]
  exact Nat.mod_eq_of_lt (by omega)
theorem rst_wrong (f r : Nat) (hf : f ≤ 15) : wrong 8 2 (rstT f r) = 0 := by
  rw [wrong_iff _ _ _ (by decide)]
  refine ⟨rstT_size f r, ?_⟩
  rw [rstT, byteAt_txt, List.getD_cons_zero, byte_of _ (by omega)]
  omega
theorem rst_gotF (f r : Nat) (hf : f ≤ 15) : decF (rstT f r) = f := by
  unfold decF; rw [if_pos (rst_wrong f r hf), rstT, byteAt_txt, List.getD_cons_zero, byte_of _ (by omega)]
  omega
theorem rst_gotR (f r : Nat) (hf : f ≤ 15) (hr : r ≤ 255) : decR (rstT f r) = r := by
  unfold decR; rw [if_pos (rst_wrong f r hf), rstT, byteAt_txt]
  show (UInt8.ofNat r).toNat = r
  exact byte_of _ (by omega)
end Go.Proofs.Ytbimdlcgjpeheaa
