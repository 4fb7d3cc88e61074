/-
  Numbers of as many bytes stand in the order of their bytes (plain).
-/
import Derived.Test.YtjkbajhmnfejgaaCurMore
import Derived.Lib.Bytes
namespace Go.Proofs.Ytjkbajhmnfejgaa
set_option linter.unusedVariables false
theorem less_be : ∀ (m a b : Nat), Op.bytesLess (be m a) (be m b) = decide (a % 256 ^ m < b % 256 ^ m)
  | 0, a, b => by simp [be, Op.bytesLess, Nat.mod_one]
  | m + 1, a, b => by
    rw [be, be, Op.bytesLess, less_be m a b]
    have ea : a % 256 ^ (m + 1) = a / 256 ^ m % 256 * 256 ^ m + a % 256 ^ m := by
      rw [Nat.pow_succ, Nat.mod_mul, Nat.mul_comm (256 ^ m), Nat.add_comm]
    have eb : b % 256 ^ (m + 1) = b / 256 ^ m % 256 * 256 ^ m + b % 256 ^ m := by
      rw [Nat.pow_succ, Nat.mod_mul, Nat.mul_comm (256 ^ m), Nat.add_comm]
    have hp : 0 < 256 ^ m := Nat.pow_pos (by omega)
    have la := Nat.mod_lt a hp
    have lb := Nat.mod_lt b hp
    rw [ea, eb]
    have tl : (UInt8.ofNat (a / 256 ^ m) < UInt8.ofNat (b / 256 ^ m)) ↔ a / 256 ^ m % 256 < b / 256 ^ m % 256 := by
      rw [UInt8.lt_iff_toNat_lt, UInt8.toNat_ofNat', UInt8.toNat_ofNat']
    have te : (UInt8.ofNat (a / 256 ^ m) = UInt8.ofNat (b / 256 ^ m)) ↔ a / 256 ^ m % 256 = b / 256 ^ m % 256 := by
      rw [← UInt8.toNat_inj, UInt8.toNat_ofNat', UInt8.toNat_ofNat']
    generalize a / 256 ^ m % 256 = x at *
    generalize b / 256 ^ m % 256 = y at *
    generalize a % 256 ^ m = p at *
    generalize b % 256 ^ m = q at *
    generalize 256 ^ m = P at *
    rw [Bool.eq_iff_iff]
    simp only [Bool.or_eq_true, Bool.and_eq_true, decide_eq_true_eq, beq_iff_eq, tl, te]
    constructor
    · rintro (h | ⟨rfl, h⟩)
      · have : (x + 1) * P ≤ y * P := Nat.mul_le_mul_right _ h
        rw [Nat.add_mul] at this
        omega
      · omega
    · intro h
      rcases Nat.lt_trichotomy x y with c | c | c
      · exact .inl c
      · subst c; exact .inr ⟨rfl, by omega⟩
      · have : (y + 1) * P ≤ x * P := Nat.mul_le_mul_right _ c
        rw [Nat.add_mul] at this
        omega
theorem be_inj (m a b : Nat) (h : be m a = be m b) : a % 256 ^ m = b % 256 ^ m := by
  have h1 := less_be m a b
  have h2 := less_be m b a
  rw [h] at h1
  rw [← h] at h2
  have e1 : Op.bytesLess (be m b) (be m b) = false := by rw [less_be]; simp
  have e2 : Op.bytesLess (be m a) (be m a) = false := by rw [less_be]; simp
  rw [e1] at h1
  rw [e2] at h2
  have := of_decide_eq_false h1.symm
  have := of_decide_eq_false h2.symm
  omega
theorem nil_append_be (m a : Nat) : ((⟨#[]⟩ : ByteArray) ++ ⟨(be m a).toArray⟩).toList = be m a := by
  rw [ByteArray.toList_eq, ByteArray.data_append]
  simp
theorem be_less (m a b : Nat) (ha : a < 256 ^ m) (hb : b < 256 ^ m) : Op.bytesLess ((⟨#[]⟩ : ByteArray) ++ ⟨(be m a).toArray⟩).toList ((⟨#[]⟩ : ByteArray) ++ ⟨(be m b).toArray⟩).toList = decide (a < b) := by
  rw [nil_append_be, nil_append_be, less_be, Nat.mod_eq_of_lt ha, Nat.mod_eq_of_lt hb]
theorem be_same (m a b : Nat) (ha : a < 256 ^ m) (hb : b < 256 ^ m) : (((⟨#[]⟩ : ByteArray) ++ ⟨(be m a).toArray⟩).toList == ((⟨#[]⟩ : ByteArray) ++ ⟨(be m b).toArray⟩).toList) = decide (a = b) := by
  rw [nil_append_be, nil_append_be]
  by_cases e : a = b
  · subst e; simp
  · have : be m a ≠ be m b := fun h => e (by have := be_inj m a b h; rwa [Nat.mod_eq_of_lt ha, Nat.mod_eq_of_lt hb] at this)
    simp [e, this]
end Go.Proofs.Ytjkbajhmnfejgaa
