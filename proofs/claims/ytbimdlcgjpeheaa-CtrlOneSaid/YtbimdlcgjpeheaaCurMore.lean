/-
  A cursor's answers in one form, whether there are enough bytes or not, whether it is broken or not (plain definitions), and more facts on the bytes of a number.
-/
import Derived.Test.YtbimdlcgjpeheaaCurBytes
namespace Go.Proofs.Ytbimdlcgjpeheaa
set_option linter.unusedVariables false

/-- Are there n bytes behind the cursor, and is it not broken? -/
def fits (s : ByteArray) (k : Nat) (br : Bool) (n : Int) : Bool := !br && (decide (0 ≤ n) && decide (n ≤ (s.size : Int) - k))
def posO (s : ByteArray) (k : Nat) (br : Bool) (n : Int) : Nat := if fits s k br n then k + n.toNat else k
def brO (s : ByteArray) (k : Nat) (br : Bool) (n : Int) : Bool := !fits s k br n
def numO (s : ByteArray) (k : Nat) (br : Bool) (m : Nat) : Nat := if fits s k br m then num s k m else 0
def takeO (s : ByteArray) (k : Nat) (br : Bool) (n : Int) : ByteArray := if fits s k br n then s.extract k (k + n.toNat) else ⟨#[]⟩
def leftO (s : ByteArray) (k : Nat) (br : Bool) : Int := if br then 0 else (s.size : Int) - k
def endO (s : ByteArray) (k : Nat) (br : Bool) : Int := if br then 4 else if k < s.size then 5 else 0

theorem fits_cases (s : ByteArray) (k : Nat) (br : Bool) (n : Int) :
    (br = true ∧ fits s k br n = false) ∨ (br = false ∧ (n < 0 ∨ (s.size : Int) - k < n) ∧ fits s k br n = false) ∨ (br = false ∧ 0 ≤ n ∧ n ≤ (s.size : Int) - k ∧ fits s k br n = true) := by
  unfold fits
  cases br
  · by_cases h0 : 0 ≤ n
    · by_cases h1 : n ≤ (s.size : Int) - k
      · exact .inr (.inr ⟨rfl, h0, h1, by simp [h0, h1]⟩)
      · exact .inr (.inl ⟨rfl, by omega, by simp [h1]⟩)
    · exact .inr (.inl ⟨rfl, by omega, by simp [h0]⟩)
  · exact .inl ⟨rfl, by simp⟩
theorem posO_le (s : ByteArray) (k : Nat) (br : Bool) (n : Int) (hk : k ≤ s.size) : posO s k br n ≤ s.size := by
  unfold posO
  rcases fits_cases s k br n with ⟨_, h⟩ | ⟨_, _, h⟩ | ⟨_, h0, h1, h⟩ <;> rw [h]
  · simpa using hk
  · simpa using hk
  · simp; omega
theorem posO_t {s : ByteArray} {k : Nat} {br : Bool} {n : Int} (h : fits s k br n = true) : posO s k br n = k + n.toNat := by simp [posO, h]
theorem posO_f {s : ByteArray} {k : Nat} {br : Bool} {n : Int} (h : fits s k br n = false) : posO s k br n = k := by simp [posO, h]
theorem brO_t {s : ByteArray} {k : Nat} {br : Bool} {n : Int} (h : fits s k br n = true) : brO s k br n = false := by simp [brO, h]
theorem brO_f {s : ByteArray} {k : Nat} {br : Bool} {n : Int} (h : fits s k br n = false) : brO s k br n = true := by simp [brO, h]
theorem numO_t {s : ByteArray} {k : Nat} {br : Bool} {m : Nat} (h : fits s k br m = true) : numO s k br m = num s k m := by simp [numO, h]
theorem numO_f {s : ByteArray} {k : Nat} {br : Bool} {m : Nat} (h : fits s k br m = false) : numO s k br m = 0 := by simp [numO, h]
theorem takeO_t {s : ByteArray} {k : Nat} {br : Bool} {n : Int} (h : fits s k br n = true) : takeO s k br n = s.extract k (k + n.toNat) := by simp [takeO, h]
theorem takeO_f {s : ByteArray} {k : Nat} {br : Bool} {n : Int} (h : fits s k br n = false) : takeO s k br n = ⟨#[]⟩ := by simp [takeO, h]
theorem numO_le8 (s : ByteArray) (k : Nat) (br : Bool) (m : Nat) (h : m ≤ 8) : numO s k br m ≤ 18446744073709551615 := by
  unfold numO; split
  · exact num_le8 s k m h
  · omega

theorem be_cons (n j r : Nat) (hr : r = n / 256 ^ j) : (⟨#[UInt8.ofNat (r % 256)]⟩ : ByteArray) ++ ⟨(be j n).toArray⟩ = ⟨(be (j + 1) n).toArray⟩ := by
  have e : UInt8.ofNat (r % 256) = UInt8.ofNat (n / 256 ^ j) := by
    subst hr
    apply UInt8.toNat_inj.1
    simp
  rw [e]
  apply ByteArray.ext
  rw [ByteArray.data_append]
  show #[_] ++ (be j n).toArray = (_ :: be j n).toArray
  simp
/-- Only the last m bytes of n count. -/
theorem be_mod : ∀ (m n c : Nat), m ≤ c → be m (n % 256 ^ c) = be m n
  | 0, _, _, _ => rfl
  | m + 1, n, c, h => by
    rw [be, be, be_mod m n c (by omega)]
    congr 1
    apply UInt8.toNat_inj.1
    rw [UInt8.toNat_ofNat', UInt8.toNat_ofNat']
    obtain ⟨d, rfl⟩ : ∃ d, c = m + (d + 1) := ⟨c - m - 1, by omega⟩
    rw [Nat.pow_add, Nat.mod_mul_right_div_self, Nat.pow_succ, Nat.mul_comm (256 ^ d) 256, show (2 : Nat) ^ 8 = 256 from rfl, Nat.mod_mul_right_mod]
theorem num_step0 (t : ByteArray) (j : Nat) (h : j < t.size) : num t 0 (j + 1) = num t 0 j * 256 + t[j].toNat := by
  have e := num_step t 0 j (by omega)
  rw [e]
  simp only [Nat.zero_add]
theorem num_congr (s t : ByteArray) (k l : Nat) : ∀ m, (∀ j, j < m → s.data.toList.getD (k + j) 0 = t.data.toList.getD (l + j) 0) → num s k m = num t l m
  | 0, _ => rfl
  | m + 1, h => by rw [num, num, num_congr s t k l m (fun j hj => h j (by omega)), h m (by omega)]
theorem num_extract (s : ByteArray) (k m : Nat) (h : k + m ≤ s.size) : num (s.extract k (k + m)) 0 m = num s k m := by
  apply num_congr
  intro j hj
  have e : (s.extract k (k + m)).data.toList = (s.data.toList.drop k).take m := by
    rw [ByteArray.data_extract, Array.toList_extract, List.extract_eq_take_drop]
    congr 1; omega
  rw [e, List.getD_eq_getElem?_getD, List.getD_eq_getElem?_getD, List.getElem?_take_of_lt (by omega), List.getElem?_drop]
  congr 3; omega
theorem size_extract (s : ByteArray) (k m : Nat) (h : k + m ≤ s.size) : (s.extract k (k + m)).size = m := by
  rw [ByteArray.size_extract]; omega
end Go.Proofs.Ytbimdlcgjpeheaa
