/-
  Parts, and rows of parts, as bytes (plain): what plaitlaw02 puts, one behind the other.
-/
import Derived.Test.YtjkbajhmnfejgaaCurMore
import Derived.Laws.Strings
namespace Go.Proofs.Ytjkbajhmnfejgaa
set_option linter.unusedVariables false

/-- The bytes of a part: a number of 1, 2, 4, 8 bytes, or a text of twenty bytes at most. -/
def part (q : Int × Nat × ByteArray) : List UInt8 :=
  if q.1 % 5 = 0 then be 1 q.2.1 else if q.1 % 5 = 1 then be 2 q.2.1 else if q.1 % 5 = 2 then be 4 q.2.1 else if q.1 % 5 = 3 then be 8 q.2.1 else q.2.2.data.toList.take 20
theorem part_le (q : Int × Nat × ByteArray) : (part q).length ≤ 20 := by
  unfold part
  repeat' split
  all_goals first | (rw [be_length]; omega) | (rw [List.length_take]; omega)
theorem part0 {q : Int × Nat × ByteArray} (h : q.1 % 5 = 0) : part q = be 1 q.2.1 := by unfold part; rw [if_pos h]
theorem part1 {q : Int × Nat × ByteArray} (h : q.1 % 5 = 1) : part q = be 2 q.2.1 := by unfold part; rw [if_neg (by omega), if_pos h]
theorem part2 {q : Int × Nat × ByteArray} (h : q.1 % 5 = 2) : part q = be 4 q.2.1 := by unfold part; rw [if_neg (by omega), if_neg (by omega), if_pos h]
theorem part3 {q : Int × Nat × ByteArray} (h : q.1 % 5 = 3) : part q = be 8 q.2.1 := by unfold part; rw [if_neg (by omega), if_neg (by omega), if_neg (by omega), if_pos h]
theorem part4 {q : Int × Nat × ByteArray} (h : q.1 % 5 = 4) : part q = q.2.2.data.toList.take 20 := by unfold part; rw [if_neg (by omega), if_neg (by omega), if_neg (by omega), if_neg (by omega)]

/-- The first i parts, one behind the other. -/
def cat (Q : Nat → Int × Nat × ByteArray) : Nat → List UInt8
  | 0 => []
  | i + 1 => cat Q i ++ part (Q i)
theorem cat_le (Q : Nat → Int × Nat × ByteArray) : ∀ i, (cat Q i).length ≤ 20 * i
  | 0 => by simp [cat]
  | i + 1 => by
    have := cat_le Q i
    have := part_le (Q i)
    rw [cat, List.length_append]
    omega
theorem cat_mono (Q : Nat → Int × Nat × ByteArray) (i : Nat) : ∀ d, ∃ r, cat Q (i + d) = cat Q i ++ r
  | 0 => ⟨[], by simp⟩
  | d + 1 => by
    obtain ⟨r, hr⟩ := cat_mono Q i d
    exact ⟨r ++ part (Q (i + d)), by rw [← Nat.add_assoc, cat, hr, List.append_assoc]⟩
theorem cat_len_mono (Q : Nat → Int × Nat × ByteArray) {i j : Nat} (h : i ≤ j) : (cat Q i).length ≤ (cat Q j).length := by
  obtain ⟨d, rfl⟩ : ∃ d, j = i + d := ⟨j - i, by omega⟩
  obtain ⟨r, hr⟩ := cat_mono Q i d
  rw [hr, List.length_append]
  omega

/-- From k on s begins with l. -/
def Sub (s : ByteArray) (k : Nat) (l : List UInt8) : Prop := ∃ r, s.data.toList.drop k = l ++ r
theorem Sub.len {s : ByteArray} {k : Nat} {l : List UInt8} (h : Sub s k l) (hk : k ≤ s.size) : k + l.length ≤ s.size := by
  obtain ⟨r, hr⟩ := h
  have e := congrArg List.length hr
  rw [List.length_drop, List.length_append] at e
  have : s.data.toList.length = s.size := by simp
  omega
theorem Sub.get {s : ByteArray} {k : Nat} {l : List UInt8} (h : Sub s k l) {j : Nat} (hj : j < l.length) : s.data.toList.getD (k + j) 0 = l.getD j 0 := by
  obtain ⟨r, hr⟩ := h
  rw [List.getD_eq_getElem?_getD, List.getD_eq_getElem?_getD, ← List.getElem?_drop, hr, List.getElem?_append_left hj]
theorem Sub.extract {s : ByteArray} {k : Nat} {l : List UInt8} (h : Sub s k l) : s.extract k (k + l.length) = ⟨l.toArray⟩ := by
  obtain ⟨r, hr⟩ := h
  apply ByteArray.ext
  apply Array.toList_inj.1
  rw [ByteArray.data_extract, Array.toList_extract, List.extract_eq_take_drop, hr]
  simp
/-- In a text in which parts stand behind p, part i stands at its place. -/
theorem sub_cat (p : List UInt8) (Q : Nat → Int × Nat × ByteArray) {i m : Nat} (hi : i < m) (s : ByteArray) (hs : s.data.toList = p ++ cat Q m) : Sub s (p.length + (cat Q i).length) (part (Q i)) := by
  obtain ⟨d, rfl⟩ : ∃ d, m = i + 1 + d := ⟨m - i - 1, by omega⟩
  obtain ⟨r, hr⟩ := cat_mono Q (i + 1) d
  refine ⟨r, ?_⟩
  rw [hs, hr, cat, List.append_assoc, ← List.append_assoc, List.drop_append_of_le_length (by simp), List.drop_of_length_le (by simp)]
  simp

theorem num_be (s : ByteArray) (k m n : Nat) (h : ∀ j, j < m → s.data.toList.getD (k + j) 0 = (be m n).getD j 0) : ∀ j, j ≤ m → num s k j = n / 256 ^ (m - j) % 256 ^ j
  | 0, _ => by simp [num, Nat.mod_one]
  | j + 1, hj => by
    rw [num, num_be s k m n h j (by omega), h j (by omega), List.getD_eq_getElem?_getD, be_get m n j (by omega)]
    simp only [Option.getD_some, UInt8.toNat_ofNat']
    have e : n / 256 ^ (m - j) = n / 256 ^ (m - (j + 1)) / 256 := by
      rw [Nat.div_div_eq_div_mul, ← Nat.pow_succ]
      congr 2
      omega
    rw [e, show m - 1 - j = m - (j + 1) by omega]
    generalize n / 256 ^ (m - (j + 1)) = x
    rw [show (256 : Nat) ^ (j + 1) = 256 * 256 ^ j by rw [Nat.pow_succ, Nat.mul_comm], Nat.mod_mul, show (2 : Nat) ^ 8 = 256 from rfl]
    omega
theorem num_sub (s : ByteArray) (k m n : Nat) (h : Sub s k (be m n)) : num s k m = n % 256 ^ m := by
  have e := num_be s k m n (fun j hj => h.get (by rw [be_length]; exact hj)) m (Nat.le_refl _)
  rw [e, Nat.sub_self, Nat.pow_zero, Nat.div_one]
/-- The first bytes of a text, as a text. -/
theorem text_take (t : ByteArray) (m : Nat) (h : m ≤ t.size) : t.extract 0 m = ⟨(t.data.toList.take m).toArray⟩ := by
  apply ByteArray.ext
  apply Array.toList_inj.1
  rw [ByteArray.data_extract, Array.toList_extract, List.extract_eq_take_drop]
  simp
theorem text20 (t : ByteArray) : t.extract 0 (min t.size 20) = ⟨(t.data.toList.take 20).toArray⟩ := by
  rw [text_take t _ (by omega)]
  congr 2
  rw [List.take_eq_take_iff]
  have : t.data.toList.length = t.size := by simp
  omega
theorem append_list (s : ByteArray) (l r : List UInt8) : (s ++ ⟨l.toArray⟩) ++ ⟨r.toArray⟩ = s ++ (⟨(l ++ r).toArray⟩ : ByteArray) := by
  apply ByteArray.ext
  simp [ByteArray.data_append]
theorem append_nil (s : ByteArray) : s ++ (⟨([] : List UInt8).toArray⟩ : ByteArray) = s := by
  apply ByteArray.ext
  simp [ByteArray.data_append]
theorem append_toList (s : ByteArray) (l : List UInt8) : (s ++ (⟨l.toArray⟩ : ByteArray)).data.toList = s.data.toList ++ l := by
  simp [ByteArray.data_append]
theorem append_size (s : ByteArray) (l : List UInt8) : (s ++ (⟨l.toArray⟩ : ByteArray)).size = s.size + l.length := by
  show (s ++ (⟨l.toArray⟩ : ByteArray)).data.size = _
  simp [ByteArray.data_append]
end Go.Proofs.Ytjkbajhmnfejgaa
