/-
  The plain authentication code of a text (layer 7), over lists of bytes. Nothing of the program is here.
-/
import Derived.Test.YtcbakfnpbhgjoaaDoorShaDigest
namespace Go.Proofs.YtcbakfnpbhgjoaaDoor
set_option linter.unusedVariables false

/-- The key as it is laid: its digest, where it is longer than a block. -/
def kb (key : List UInt8) : List UInt8 := if 64 < key.length then digest key else key
/-- The block of a key, each byte turned by the same one. -/
def mixd (key : List UInt8) (by_ : UInt8) : List UInt8 := (List.range 64).map fun i => key.getD i 0 ^^^ by_
/-- The code of a text under a key. -/
def code (key text : List UInt8) : List UInt8 := digest (mixd (kb key) 0x5c ++ digest (mixd (kb key) 0x36 ++ text))
theorem kb_le (key : List UInt8) : (kb key).length ≤ 64 := by
  unfold kb; split
  · rw [digest_length]; decide
  · omega
theorem mixd_length (key : List UInt8) (b : UInt8) : (mixd key b).length = 64 := by simp [mixd]
theorem code_length (key text : List UInt8) : (code key text).length = 32 := digest_length _
theorem mixd_get (key : List UInt8) (b : UInt8) (i : Nat) (h : i < 64) : (mixd key b)[i]? = some (key.getD i 0 ^^^ b) := by simp [mixd, h]
theorem mixd_take (key : List UInt8) (b : UInt8) (j : Nat) (h : j < 64) : (mixd key b).take (j + 1) = (mixd key b).take j ++ [key.getD j 0 ^^^ b] := by
  rw [List.take_add_one, mixd_get key b j h]; rfl
/-- Zeros behind a key make no difference. -/
theorem mixd_zeros (key : List UInt8) (b : UInt8) (n : Nat) : mixd (key ++ List.replicate n 0) b = mixd key b := by
  unfold mixd
  apply List.map_congr_left
  intro i _
  congr 1
  simp only [List.getD_eq_getElem?_getD, List.getElem?_append]
  by_cases h : i < key.length
  · simp [h]
  · rw [if_neg h, List.getElem?_eq_none (Nat.le_of_not_lt h), List.getElem?_replicate]
    split <;> rfl
theorem kb_zeros (key : List UInt8) (n : Nat) (h : key.length + n ≤ 64) : kb (key ++ List.replicate n 0) = key ++ List.replicate n 0 := by
  unfold kb; rw [if_neg (by simp; omega)]
theorem kb_short (key : List UInt8) (h : key.length ≤ 64) : kb key = key := by unfold kb; rw [if_neg (by omega)]
theorem kb_kb (key : List UInt8) : kb (kb key) = kb key := kb_short _ (kb_le key)
theorem code_kb (key text : List UInt8) : code (kb key) text = code key text := by unfold code; rw [kb_kb]
theorem code_zeros (key text : List UInt8) (n : Nat) (h : key.length + n ≤ 64) : code (key ++ List.replicate n 0) text = code key text := by
  unfold code; rw [kb_zeros key n h, mixd_zeros, mixd_zeros, kb_short key (by omega)]
/-- A number held between 0 and 32. -/
def cl (n : Int) : Nat := min n.toNat 32
theorem cl_le (n : Int) : cl n ≤ 32 := by unfold cl; omega
end Go.Proofs.YtcbakfnpbhgjoaaDoor
