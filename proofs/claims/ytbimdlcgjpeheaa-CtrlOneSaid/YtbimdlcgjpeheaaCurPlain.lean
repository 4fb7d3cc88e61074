/-
  Plain arithmetic of layer 2: the number that stands in the bytes of a text, and the bytes of a number. Nothing of the program is here.
-/
import Derived.Laws.BitsAllLaws
import Derived.Laws.BitsLemmas
namespace Go.Proofs.Ytbimdlcgjpeheaa
set_option linter.unusedVariables false

/-- The number in the j bytes of s from a on. -/
def num (s : ByteArray) (a : Nat) : Nat → Nat
  | 0 => 0
  | j + 1 => num s a j * 256 + (s.data.toList.getD (a + j) 0).toNat

theorem num_lt (s : ByteArray) (a : Nat) : ∀ j, num s a j < 256 ^ j
  | 0 => by simp [num]
  | j + 1 => by
    have := num_lt s a j
    have h := (s.data.toList.getD (a + j) 0).toNat_lt
    rw [num, Nat.pow_succ]
    omega
theorem num_le8 (s : ByteArray) (a j : Nat) (h : j ≤ 8) : num s a j ≤ 18446744073709551615 := by
  have h1 := num_lt s a j
  have h2 : 256 ^ j ≤ 256 ^ 8 := Nat.pow_le_pow_right (by omega) h
  omega
theorem num_le7 (s : ByteArray) (a j : Nat) (h : j < 8) : num s a j ≤ 72057594037927935 := by
  have h1 := num_lt s a j
  have h2 : 256 ^ j ≤ 256 ^ 7 := Nat.pow_le_pow_right (by omega) (by omega)
  omega
theorem or_num_byte (n c : Nat) (hn : n ≤ 72057594037927935) (hc : c < 256) : bits .or .u64 ((n : Int) * 256) (c : Int) = ((n * 256 + c : Nat) : Int) := by
  have e : ((n : Int) * 256) = ((n * 256 : Nat) : Int) := by omega
  rw [e, u64_or_nat (n * 256) c (by omega) (by omega)]
  have h : n * 256 ||| c = n * 256 + c := by
    have := Nat.shiftLeft_add_eq_or_of_lt (b := c) (i := 8) (by omega) n
    rw [Nat.shiftLeft_eq, show (2 : Nat) ^ 8 = 256 from rfl] at this
    exact this.symm
  rw [h]
theorem num_step (s : ByteArray) (a j : Nat) (h : a + j < s.size) : num s a (j + 1) = num s a j * 256 + s[a + j].toNat := by
  rw [num]
  congr 2
  have hl : a + j < s.data.toList.length := by simpa using h
  rw [List.getD_eq_getElem?_getD, List.getElem?_eq_getElem hl]
  rfl
/-- The last m bytes of n, the most significant one first. -/
def be : Nat → Nat → List UInt8
  | 0, _ => []
  | m + 1, n => UInt8.ofNat (n / 256 ^ m) :: be m n
theorem be_length : ∀ m n, (be m n).length = m
  | 0, _ => rfl
  | m + 1, n => by rw [be, List.length_cons, be_length m n]
theorem be_get : ∀ m n i, i < m → (be m n)[i]? = some (UInt8.ofNat (n / 256 ^ (m - 1 - i)))
  | m + 1, n, 0, _ => by simp [be]
  | m + 1, n, i + 1, h => by
    rw [be, List.getElem?_cons_succ, be_get m n i (by omega)]
    congr 4
    omega
theorem val_int {k : IntKind} {a b : Int} (h : a = b) : Value.int k a = .int k b := by rw [h]
/-- A round of the loop that reads a number. -/
theorem num_round (s : ByteArray) (k j p : Nat) (hp : p = k + j) (h : p < s.size) (hn : num s k j ≤ 72057594037927935) :
    bits BinOp.or IntKind.u64 (↑(num s k j) * 256) (IntKind.u64.wrap ↑s[p].toNat) = ((num s k (j + 1) : Nat) : Int) := by
  subst hp
  have hb := s[k + j].toNat_lt
  rw [num_step s k j h, IntKind.wrap_u64, show ((s[k + j].toNat : Int) % 18446744073709551616) = (s[k + j].toNat : Int) by omega]
  exact or_num_byte _ _ hn (by omega)
/-- A number of m bytes is not changed by what is left of it in c bytes or more. -/
theorem num_keep (s : ByteArray) (k m c C : Nat) (h : m ≤ c) (hC : 256 ^ c = C) : ((num s k m : Nat) : Int) % (C : Int) = (num s k m : Int) := by
  have h1 := num_lt s k m
  have h2 : 256 ^ m ≤ 256 ^ c := Nat.pow_le_pow_right (by omega) h
  rw [← hC]
  exact Int.emod_eq_of_lt (by omega) (by exact_mod_cast Nat.lt_of_lt_of_le h1 h2)
end Go.Proofs.Ytbimdlcgjpeheaa
