/-
  Numbers and bytes, plain: a number that stands between other bytes is read there; bytes that were read as a number are its bytes; what is behind a text's end counts as 0. Nothing of the program is here.
-/
import Derived.Test.YtbimdlcgjpeheaaCurMore
namespace Go.Proofs.Ytbimdlcgjpeheaa
set_option linter.unusedVariables false

/-- Bytes, as a text. -/
def txt (l : List UInt8) : ByteArray := ⟨l.toArray⟩
theorem txt_list (l : List UInt8) : (txt l).data.toList = l := rfl
theorem txt_size (l : List UInt8) : (txt l).size = l.length := by simp [txt, ByteArray.size]
theorem txt_app (a b : List UInt8) : txt a ++ txt b = txt (a ++ b) := by apply ByteArray.ext; simp [txt, ByteArray.data_append]
theorem txt_of (s : ByteArray) : txt s.data.toList = s := rfl
theorem txt_nil (s : ByteArray) : s ++ txt [] = s := by apply ByteArray.ext; simp [txt, ByteArray.data_append]
theorem txt_more (s : ByteArray) (l : List UInt8) : s ++ txt l = txt (s.data.toList ++ l) := by apply ByteArray.ext; simp [txt, ByteArray.data_append]
theorem len_data (s : ByteArray) : s.data.toList.length = s.size := by simp
/-- The byte at i, 0 behind the end. -/
def byteAt (s : ByteArray) (i : Nat) : Nat := (s.data.toList.getD i 0).toNat
theorem byteAt_lt (s : ByteArray) (i : Nat) : byteAt s i < 256 := (s.data.toList.getD i 0).toNat_lt
theorem num_1 (s : ByteArray) (k : Nat) : num s k 1 = byteAt s k := by simp [num, byteAt]
theorem byteAt_get (s : ByteArray) (i : Nat) (h : i < s.size) : byteAt s i = s[i].toNat := by
  have hl : i < s.data.toList.length := by simpa using h
  unfold byteAt
  rw [List.getD_eq_getElem?_getD, List.getElem?_eq_getElem hl]
  rfl

theorem num_mid (P Q : List UInt8) (k m n : Nat) (hP : P.length = k) : num (txt (P ++ be m n ++ Q)) k m = n % 256 ^ m := by
  suffices h : ∀ j, j ≤ m → num (txt (P ++ be m n ++ Q)) k j = n / 256 ^ (m - j) % 256 ^ j by
    rw [h m (Nat.le_refl _), Nat.sub_self, Nat.pow_zero, Nat.div_one]
  intro j
  induction j with
  | zero => intro _; simp [num, Nat.mod_one]
  | succ j ih =>
    intro hj
    have hg : (txt (P ++ be m n ++ Q)).data.toList.getD (k + j) 0 = UInt8.ofNat (n / 256 ^ (m - 1 - j)) := by
      rw [txt_list, List.getD_eq_getElem?_getD, List.append_assoc, List.getElem?_append_right (by omega), List.getElem?_append_left (by rw [be_length]; omega), show k + j - P.length = j by omega, be_get m n j (by omega)]
      rfl
    rw [num, ih (by omega), hg, UInt8.toNat_ofNat']
    have e : n / 256 ^ (m - j) = n / 256 ^ (m - (j + 1)) / 256 := by
      rw [Nat.div_div_eq_div_mul, ← Nat.pow_succ]
      congr 2
      omega
    rw [e, show m - 1 - j = m - (j + 1) by omega]
    generalize n / 256 ^ (m - (j + 1)) = x
    rw [show (256 : Nat) ^ (j + 1) = 256 * 256 ^ j by rw [Nat.pow_succ, Nat.mul_comm], Nat.mod_mul, show (2 : Nat) ^ 8 = 256 from rfl]
    omega
theorem num_past (s : ByteArray) (k : Nat) (h : s.size ≤ k) : ∀ m, num s k m = 0
  | 0 => rfl
  | m + 1 => by
    have hl : s.data.toList.length = s.size := len_data s
    rw [num, num_past s k h m, List.getD_eq_getElem?_getD, List.getElem?_eq_none (by omega)]
    rfl
/-- What goes before stays, as bytes are read on. -/
theorem num_div (s : ByteArray) (a m : Nat) : ∀ k, num s a (m + k) / 256 ^ k = num s a m
  | 0 => by simp
  | k + 1 => by
    have h := (s.data.toList.getD (a + (m + k)) 0).toNat_lt
    have e : num s a (m + (k + 1)) = num s a (m + k) * 256 + (s.data.toList.getD (a + (m + k)) 0).toNat := rfl
    rw [e, Nat.pow_succ, Nat.mul_comm (256 ^ k) 256, ← Nat.div_div_eq_div_mul, show (num s a (m + k) * 256 + (s.data.toList.getD (a + (m + k)) 0).toNat) / 256 = num s a (m + k) by omega, num_div s a m k]
/-- The bytes of a number that was read are those that it was read from. -/
theorem be_num (s : ByteArray) (a m : Nat) (h : a + m ≤ s.size) : be m (num s a m) = (s.data.toList.drop a).take m := by
  have hl : s.data.toList.length = s.size := len_data s
  apply List.ext_getElem?
  intro i
  by_cases hi : i < m
  · have hk : a + i < s.data.toList.length := by omega
    rw [be_get m _ i hi, List.getElem?_take_of_lt hi, List.getElem?_drop, List.getElem?_eq_getElem hk]
    obtain ⟨k, hk'⟩ : ∃ k, m = (i + 1) + k := ⟨m - 1 - i, by omega⟩
    rw [hk', show i + 1 + k - 1 - i = k by omega, num_div]
    congr 1
    apply UInt8.toNat_inj.1
    have hg : s.data.toList.getD (a + i) 0 = s.data.toList[a + i] := by
      rw [List.getD_eq_getElem?_getD, List.getElem?_eq_getElem hk]; rfl
    have e : num s a (i + 1) = num s a i * 256 + (s.data.toList[a + i]).toNat := by rw [num, hg]
    have hb := (s.data.toList[a + i]).toNat_lt
    rw [e, UInt8.toNat_ofNat']
    omega
  · rw [List.getElem?_eq_none (by rw [be_length]; omega), List.getElem?_eq_none (by rw [List.length_take]; omega)]
/-- Zeros behind a text make no difference to what is read of it. -/
theorem num_zeros (s : ByteArray) (n k m : Nat) : num (s ++ txt (List.replicate n 0)) k m = num s k m := by
  have hl : s.data.toList.length = s.size := len_data s
  apply num_congr
  intro j _
  rw [txt_more, txt_list, List.getD_eq_getElem?_getD, List.getD_eq_getElem?_getD]
  by_cases h : k + j < s.size
  · rw [List.getElem?_append_left (by omega)]
  · rw [List.getElem?_append_right (by omega), List.getElem?_eq_none (l := s.data.toList) (by omega), List.getElem?_replicate]
    split <;> rfl
/-- A part of a text has the number that stands there. -/
theorem num_cut (s : ByteArray) (a b m : Nat) (hm : a + m = b) (h : b ≤ s.size) : num (s.extract a b) 0 (s.extract a b).size = num s a m := by
  subst hm
  rw [size_extract s a m h, num_extract s a m h]
end Go.Proofs.Ytbimdlcgjpeheaa
