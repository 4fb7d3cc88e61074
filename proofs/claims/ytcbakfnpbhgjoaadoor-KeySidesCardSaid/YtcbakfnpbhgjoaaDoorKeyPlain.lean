/-
  Plain facts of layer 8: the number that is in bytes, and its bytes again. Nothing of the program is here.
-/
import Derived.Test.YtcbakfnpbhgjoaaDoorCurMore
import Derived.Test.YtcbakfnpbhgjoaaDoorHmacPlain
namespace Go.Proofs.YtcbakfnpbhgjoaaDoor
set_option linter.unusedVariables false

/-- What goes before stays, as bytes are read on. -/
theorem num_div (s : ByteArray) (a m : Nat) : ∀ k, num s a (m + k) / 256 ^ k = num s a m
  | 0 => by simp
  | k + 1 => by
    have h := (s.data.toList.getD (a + (m + k)) 0).toNat_lt
    have e : num s a (m + (k + 1)) = num s a (m + k) * 256 + (s.data.toList.getD (a + (m + k)) 0).toNat := rfl
    rw [e, Nat.pow_succ, Nat.mul_comm (256 ^ k) 256, ← Nat.div_div_eq_div_mul, show (num s a (m + k) * 256 + (s.data.toList.getD (a + (m + k)) 0).toNat) / 256 = num s a (m + k) by omega, num_div s a m k]
/-- The bytes of a number that was read are those that it was read from. -/
theorem be_num (l : List UInt8) (m : Nat) (h : l.length = m) : be m (num ⟨l.toArray⟩ 0 m) = l := by
  apply List.ext_getElem?
  intro i
  by_cases hi : i < m
  · rw [be_get m _ i hi, List.getElem?_eq_getElem (by omega)]
    obtain ⟨k, rfl⟩ : ∃ k, m = (i + 1) + k := ⟨m - 1 - i, by omega⟩
    rw [show i + 1 + k - 1 - i = k by omega, num_div]
    congr 1
    apply UInt8.toNat_inj.1
    have hg : ((⟨l.toArray⟩ : ByteArray).data.toList.getD (0 + i) 0) = l[i]'(by omega) := by
      rw [Nat.zero_add]
      show l.getD i 0 = _
      rw [List.getD_eq_getElem?_getD, List.getElem?_eq_getElem (by omega)]; rfl
    have e : num ⟨l.toArray⟩ 0 (i + 1) = num ⟨l.toArray⟩ 0 i * 256 + (l[i]'(by omega)).toNat := by rw [num, hg]
    have hb := (l[i]'(by omega)).toNat_lt
    rw [e, UInt8.toNat_ofNat']
    omega
  · rw [List.getElem?_eq_none (by rw [be_length]; omega), List.getElem?_eq_none (by omega)]
/-- A number is read out of a part of a text as out of the text. -/
theorem num_part (d : List UInt8) (k m : Nat) : num ⟨(d.drop k).toArray⟩ 0 m = num ⟨d.toArray⟩ k m := by
  apply num_congr
  intro j _
  show (d.drop k).getD (0 + j) 0 = d.getD (k + j) 0
  rw [Nat.zero_add, List.getD_eq_getElem?_getD, List.getD_eq_getElem?_getD, List.getElem?_drop]
theorem num_front (d : List UInt8) (n m : Nat) (h : m ≤ n) : num ⟨(d.take n).toArray⟩ 0 m = num ⟨d.toArray⟩ 0 m := by
  apply num_congr
  intro j hj
  show (d.take n).getD (0 + j) 0 = d.getD (0 + j) 0
  rw [Nat.zero_add, List.getD_eq_getElem?_getD, List.getD_eq_getElem?_getD, List.getElem?_take_of_lt (by omega)]

/-- The digest of a key's bytes. -/
def kdig (k : Nat) : List UInt8 := digest (be 8 k)
theorem kdig_length (k : Nat) : (kdig k).length = 32 := digest_length _
/-- A key's token, and its first number. -/
def tok (k : Nat) : Nat := num ⟨((kdig k).take 4).toArray⟩ 0 4
def idsn (k : Nat) : Nat := num ⟨((kdig k).drop 24).toArray⟩ 0 8
theorem tok_le (k : Nat) : tok k ≤ 4294967295 := by have := num_lt ⟨((kdig k).take 4).toArray⟩ 0 4; unfold tok; omega
theorem idsn_le (k : Nat) : idsn k ≤ 18446744073709551615 := num_le8 _ _ _ (by decide)
theorem tok_bytes (k : Nat) : be 4 (tok k) = (kdig k).take 4 := be_num _ 4 (by rw [List.length_take, kdig_length]; rfl)
theorem idsn_bytes (k : Nat) : be 8 (idsn k) = (kdig k).drop 24 := be_num _ 8 (by rw [List.length_drop, kdig_length])
/-- The code of a text under two keys. -/
def mac (f s : Nat) (t : List UInt8) : List UInt8 := code (be 8 f ++ be 8 s) t
theorem mac_length (f s : Nat) (t : List UInt8) : (mac f s t).length = 32 := code_length _ _
/-- The text of an address. -/
def addr (id : Nat) (ip : List UInt8) (port : Nat) : List UInt8 := be 1 id ++ (ip ++ be 2 port)
end Go.Proofs.YtcbakfnpbhgjoaaDoor
