/-
  Plain facts for layer 4: what items are written as, and what bytes are read as, over lists. Nothing of the program is here.
-/
import Derived.Test.YtlmbccgldigihaaRows
namespace Go.Proofs.Ytlmbccgldigihaa
set_option linter.unusedVariables false

/-- An item: its kind, its body. -/
abbrev It := Int × ByteArray
/-- Bytes, as a text. -/
abbrev txt (l : List UInt8) : ByteArray := ⟨l.toArray⟩
theorem txt_size (l : List UInt8) : (txt l).size = l.length := by simp [ByteArray.size]
theorem txt_data (s : ByteArray) : txt s.data.toList = s := by cases s; simp [txt]
theorem data_txt (l : List UInt8) : (txt l).data.toList = l := by simp
theorem data_append (a b : ByteArray) : (a ++ b).data.toList = a.data.toList ++ b.data.toList := by simp [ByteArray.data_append]
theorem txt_append (l m : List UInt8) : txt l ++ txt m = txt (l ++ m) := by apply ByteArray.ext; simp [ByteArray.data_append]
theorem data_extract (s : ByteArray) (a b : Nat) : (s.extract a b).data.toList = (s.data.toList.take b).drop a := by
  rw [ByteArray.data_extract, Array.toList_extract, List.extract_eq_take_drop, List.drop_take]
theorem eq_of_data {a b : ByteArray} (h : a.data.toList = b.data.toList) : a = b := by
  cases a; cases b; simp at h; simpa using h
theorem data_length (s : ByteArray) : s.data.toList.length = s.size := by simp

def may (x : It) : Bool := decide (2 ≤ x.1 ∧ x.1 ≤ 255 ∧ x.2.size ≤ 253)
theorem may_iff (x : It) : may x = true ↔ 2 ≤ x.1 ∧ x.1 ≤ 255 ∧ x.2.size ≤ 253 := by simp [may]
def enc1 (x : It) : List UInt8 := UInt8.ofNat x.1.toNat :: UInt8.ofNat (x.2.size + 2) :: x.2.data.toList
def enc : List It → List UInt8
  | [] => []
  | x :: r => enc1 x ++ enc r
def wide : List It → Nat
  | [] => 0
  | x :: r => 2 + x.2.size + wide r
theorem enc1_length (x : It) : (enc1 x).length = 2 + x.2.size := by simp [enc1]; omega
theorem enc_length : ∀ l, (enc l).length = wide l
  | [] => rfl
  | x :: r => by rw [enc, List.length_append, enc1_length, enc_length r, wide]
theorem enc_append : ∀ l m, enc (l ++ m) = enc l ++ enc m
  | [], m => rfl
  | x :: r, m => by simp [enc, enc_append r m]
theorem wide_append (l m : List It) : wide (l ++ m) = wide l + wide m := by rw [← enc_length, enc_append, List.length_append, enc_length, enc_length]
theorem wide_one (x : It) : wide [x] = 2 + x.2.size := by simp [wide]
theorem take_snoc_of {α : Type} (l : List α) (j : Nat) (x : α) (h : l[j]? = some x) : l.take (j + 1) = l.take j ++ [x] := by
  obtain ⟨hj, rfl⟩ := List.getElem?_eq_some_iff.1 h
  exact List.take_succ_eq_append_getElem hj
theorem wide_take_succ (l : List It) (j : Nat) (x : It) (h : l[j]? = some x) : wide (l.take (j + 1)) = wide (l.take j) + 2 + x.2.size := by
  rw [take_snoc_of l j x h, wide_append, wide_one]; omega
theorem enc_take_succ (l : List It) (j : Nat) (x : It) (h : l[j]? = some x) : enc (l.take (j + 1)) = enc (l.take j) ++ enc1 x := by
  rw [take_snoc_of l j x h, enc_append]; simp [enc]
theorem wide_take_le (l : List It) (j : Nat) : wide (l.take j) ≤ wide l := by
  have := wide_append (l.take j) (l.drop j); rw [List.take_append_drop] at this; omega
theorem length_le_wide : ∀ l : List It, 2 * l.length ≤ wide l
  | [] => Nat.le_refl _
  | x :: r => by have := length_le_wide r; simp [wide]; omega

def pad (n : Nat) : Nat := (n + 3) / 4 * 4
theorem pad_b (n : Nat) : n ≤ pad n ∧ pad n ≤ n + 3 ∧ pad n % 4 = 0 := by unfold pad; omega
/-- What a row is written as, and the number of what is wrong. -/
def laid (l : List It) : ByteArray × Int :=
  if l.all may then (if wide l ≤ 40 then (txt (enc l ++ List.replicate (pad (wide l) - wide l) 0), 0) else (⟨#[]⟩, 6)) else (⟨#[]⟩, 2)
/-- How long that is. -/
def sized (l : List It) : Int × Int :=
  if l.all may then (if wide l ≤ 40 then ((pad (wide l) : Int), 0) else (0, 6)) else (0, 2)
theorem laid_sized (l : List It) : ((laid l).1.size : Int) = (sized l).1 ∧ (laid l).2 = (sized l).2 := by
  unfold laid sized
  split
  · split
    · have := pad_b (wide l)
      refine ⟨?_, rfl⟩
      show (((txt (enc l ++ List.replicate (pad (wide l) - wide l) 0)).size : Nat) : Int) = (pad (wide l) : Int)
      rw [txt_size, List.length_append, List.length_replicate, enc_length]; omega
    · exact ⟨rfl, rfl⟩
  · exact ⟨rfl, rfl⟩
theorem laid_small (l : List It) : (laid l).1.size ≤ 40 := by
  unfold laid
  split
  · split
    · have := pad_b (wide l)
      show (txt (enc l ++ List.replicate (pad (wide l) - wide l) 0)).size ≤ 40
      rw [txt_size, List.length_append, List.length_replicate, enc_length]; unfold pad at *; omega
    · exact Nat.zero_le _
  · exact Nat.zero_le _
theorem laid_ok (l : List It) (h : l.all may = true) (hw : wide l ≤ 40) : laid l = (txt (enc l ++ List.replicate (pad (wide l) - wide l) 0), 0) := by
  unfold laid; rw [if_pos h, if_pos hw]
theorem sized_ok (l : List It) (h : l.all may = true) (hw : wide l ≤ 40) : sized l = ((pad (wide l) : Int), 0) := by
  unfold sized; rw [if_pos h, if_pos hw]

/-- The item that a text begins with, how long it is, and what is wrong. -/
def fst : List UInt8 → It × Nat × Int
  | [] => ((0, ⟨#[]⟩), 1, 0)
  | a :: r => if a.toNat < 2 then (((a.toNat : Int), ⟨#[]⟩), 1, 0) else
    match r with
    | [] => ((0, ⟨#[]⟩), 0, 4)
    | b :: t => if b.toNat < 2 then ((0, ⟨#[]⟩), 0, 5) else if t.length + 2 < b.toNat then ((0, ⟨#[]⟩), 0, 4) else (((a.toNat : Int), txt (t.take (b.toNat - 2))), b.toNat, 0)

theorem fst_one (a : UInt8) : fst [a] = if a.toNat < 2 then (((a.toNat : Int), ⟨#[]⟩), 1, 0) else ((0, ⟨#[]⟩), 0, 4) := rfl
theorem fst_two (a b : UInt8) (t : List UInt8) : fst (a :: b :: t) = if a.toNat < 2 then (((a.toNat : Int), ⟨#[]⟩), 1, 0) else if b.toNat < 2 then ((0, ⟨#[]⟩), 0, 5) else if t.length + 2 < b.toNat then ((0, ⟨#[]⟩), 0, 4) else (((a.toNat : Int), txt (t.take (b.toNat - 2))), b.toNat, 0) := rfl

/-- What is handed over, of a text from place k on. -/
abbrev Ev := It × (Int × Int)
def evs : Nat → Nat → List UInt8 → List Ev
  | 0, _, _ => []
  | n + 1, k, q => if q = [] then [] else if (fst q).2.2 = 0 then ((fst q).1, (0, 0)) :: evs n (k + (fst q).2.1) (q.drop (fst q).2.1) else [((0, ⟨#[]⟩), ((fst q).2.2, (k : Int)))]
/-- What a row of such makes. -/
def fold : List It → List Ev → List It × Int
  | acc, [] => (acc, 0)
  | acc, e :: r => if e.2 ≠ (0, 0) then ([], e.2.1) else if e.1.1 = 0 then (acc, 0) else if e.1.1 = 1 then fold acc r else fold (acc ++ [e.1]) r
/-- The items of a text. -/
def go : Nat → List It → List UInt8 → List It × Int
  | 0, acc, _ => (acc, 0)
  | n + 1, acc, q => if q = [] then (acc, 0) else if (fst q).2.2 ≠ 0 then ([], (fst q).2.2) else if (fst q).1.1 = 0 then (acc, 0) else if (fst q).1.1 = 1 then go n acc (q.drop (fst q).2.1) else go n (acc ++ [(fst q).1]) (q.drop (fst q).2.1)
theorem fold_evs : ∀ n k acc q, fold acc (evs n k q) = go n acc q
  | 0, k, acc, q => rfl
  | n + 1, k, acc, q => by
    rw [evs, go]
    by_cases h : q = []
    · rw [if_pos h, if_pos h]; rfl
    · rw [if_neg h, if_neg h]
      by_cases hc : (fst q).2.2 = 0
      · rw [if_pos hc, if_neg (by simpa using hc), fold, if_neg (by simp)]
        split
        · rfl
        · split
          · exact fold_evs n _ _ _
          · exact fold_evs n _ _ _
      · rw [if_neg hc, if_pos hc, fold, if_pos (by simp [hc])]
/-- The items of a text, and what is wrong. -/
def read (s : ByteArray) : List It × Int := if 40 < s.size then ([], 6) else if s.size % 4 ≠ 0 then ([], 5) else go 41 [] s.data.toList
theorem read_ok (s : ByteArray) (h : s.size ≤ 40) (h4 : s.size % 4 = 0) : read s = go 41 [] s.data.toList := by
  unfold read; rw [if_neg (by omega), if_neg (by omega)]

theorem fst_enc1 (x : It) (t : List UInt8) (h : may x = true) : fst (enc1 x ++ t) = (x, 2 + x.2.size, 0) := by
  obtain ⟨h1, h2, h3⟩ := (may_iff x).1 h
  obtain ⟨k, s⟩ := x
  simp only at h1 h2 h3
  have e1 : (UInt8.ofNat k.toNat).toNat = k.toNat := by rw [UInt8.toNat_ofNat']; omega
  have e2 : (UInt8.ofNat (s.size + 2)).toNat = s.size + 2 := by rw [UInt8.toNat_ofNat']; omega
  have e3 : ¬ (k.toNat < 2) := by omega
  have e4 : ¬ (s.size + 2 < 2) := by omega
  have e5 : ¬ ((s.data.toList ++ t).length + 2 < s.size + 2) := by simp
  simp only [enc1, List.cons_append, fst]
  rw [e1, if_neg e3, e2, if_neg e4, if_neg e5]
  have e6 : (s.data.toList ++ t).take (s.size + 2 - 2) = s.data.toList := by
    rw [show s.size + 2 - 2 = s.data.toList.length by simp, List.take_left]
  rw [e6, txt_data, show ((k.toNat : Nat) : Int) = k by omega, Nat.add_comm]
theorem go_enc : ∀ (l : List It) (n : Nat) (acc : List It) (t : List UInt8), l.all may = true → l.length ≤ n → go n acc (enc l ++ t) = go (n - l.length) (acc ++ l) t
  | [], n, acc, t, _, _ => by simp [enc]
  | x :: r, n, acc, t, h, hn => by
    obtain ⟨m, rfl⟩ : ∃ m, n = m + 1 := ⟨n - 1, by simp at hn; omega⟩
    have hx : may x = true := by simp at h; exact h.1
    have hr : r.all may = true := by simp at h ⊢; exact h.2
    have hm := (may_iff x).1 hx
    have hf := fst_enc1 x (enc r ++ t) hx
    rw [enc, List.append_assoc, go, hf]
    have hne : enc1 x ++ (enc r ++ t) ≠ [] := by simp [enc1]
    simp only
    rw [if_neg hne, if_neg (by simp), if_neg (by omega), if_neg (by omega)]
    have hd : (enc1 x ++ (enc r ++ t)).drop (2 + x.2.size) = enc r ++ t := by rw [← enc1_length, List.drop_left]
    rw [hd, go_enc r m (acc ++ [x]) t hr (by simp at hn; omega)]
    simp
theorem go_nil (n : Nat) (acc : List It) : go n acc [] = (acc, 0) := by cases n <;> simp [go]
theorem go_zero (n : Nat) (acc : List It) (t : List UInt8) : go n acc (0 :: t) = (acc, 0) := by cases n <;> simp [go, fst]
theorem go_zeros (n k : Nat) (acc : List It) : go n acc (List.replicate k 0) = (acc, 0) := by
  cases k with
  | zero => exact go_nil n acc
  | succ k => rw [List.replicate_succ]; exact go_zero n acc _
theorem go_one (n : Nat) (acc : List It) (t : List UInt8) : go (n + 1) acc (1 :: t) = go n acc t := by simp [go, fst]
/-- What is read of a text: items that may be, no longer than it. -/
theorem go_back : ∀ (n : Nat) (acc m : List It) (q : List UInt8), go n acc q = (m, 0) → ∃ l, m = acc ++ l ∧ l.all may = true ∧ wide l ≤ q.length
  | 0, acc, m, q, h => ⟨[], by simp [go] at h; simp [h], rfl, Nat.zero_le _⟩
  | n + 1, acc, m, q, h => by
    rw [go] at h
    split at h
    · exact ⟨[], by simp at h; simp [h], rfl, Nat.zero_le _⟩
    · split at h
      · next hne hc => simp at h; exact absurd h.2 hc
      · next hq hc =>
        split at h
        · exact ⟨[], by simp at h; simp [h], rfl, Nat.zero_le _⟩
        · split at h
          · obtain ⟨l, e, a, b⟩ := go_back n _ _ _ h
            exact ⟨l, e, a, by rw [List.length_drop] at b; omega⟩
          · next h0 h1 =>
            obtain ⟨l, e, a, b⟩ := go_back n _ _ _ h
            refine ⟨(fst q).1 :: l, by rw [e]; simp, ?_, ?_⟩
            all_goals
              match q, hq with
              | [x], _ =>
                rw [fst_one] at h0 h1 hc b ⊢
                split at h0
                · next h2 => rw [if_pos h2] at h1; simp at h0 h1; omega
                · next h2 => rw [if_neg h2] at hc; simp at hc
              | x :: y :: t, _ =>
                rw [fst_two] at h0 h1 hc b ⊢
                split at h0
                · next h2 => rw [if_pos h2] at h1; simp at h0 h1; omega
                · next h2 =>
                  rw [if_neg h2] at h1 hc b ⊢
                  split at h0
                  · simp at h0
                  · next h3 =>
                    rw [if_neg h3] at h1 hc b ⊢
                    split at h0
                    · simp at h0
                    · next h4 =>
                      rw [if_neg h4] at h1 hc b ⊢
                      have hx := x.toNat_lt
                      have hy := y.toNat_lt
                      have hl : (txt (t.take (y.toNat - 2))).size = y.toNat - 2 := by rw [txt_size, List.length_take]; omega
                      first
                        | (rw [List.all_cons, a, Bool.and_true, may_iff]; simp only [hl]; omega)
                        | (rw [List.length_drop] at b; simp only [wide, hl, List.length_cons] at b ⊢; omega)
theorem fst_code (q : List UInt8) : (fst q).2.2 = 0 ∨ (fst q).2.2 = 4 ∨ (fst q).2.2 = 5 := by
  cases q with
  | nil => exact .inl rfl
  | cons a r =>
    cases r with
    | nil =>
      rw [fst_one]
      split
      · exact .inl rfl
      · exact .inr (.inl rfl)
    | cons b t =>
      rw [fst_two]
      split
      · exact .inl rfl
      · split
        · exact .inr (.inr rfl)
        · split
          · exact .inr (.inl rfl)
          · exact .inl rfl
theorem go_bad : ∀ (n : Nat) (acc m : List It) (q : List UInt8) (c : Int), go n acc q = (m, c) → c ≠ 0 → m = [] ∧ (c = 4 ∨ c = 5)
  | 0, acc, m, q, c, h, hc => by simp [go] at h; omega
  | n + 1, acc, m, q, c, h, hc => by
    rw [go] at h
    split at h
    · simp at h; omega
    · split at h
      · simp at h
        have := fst_code q
        exact ⟨h.1, by omega⟩
      · split at h
        · simp at h; omega
        · split at h
          · exact go_bad n _ _ _ _ h hc
          · exact go_bad n _ _ _ _ h hc
/-- What was written is read. -/
theorem read_laid (l : List It) (h : l.all may = true) (hw : wide l ≤ 40) : read (laid l).1 = (l, 0) := by
  have hl := laid_ok l h hw
  have hz := (laid_sized l).1
  rw [sized_ok l h hw] at hz
  have hp := pad_b (wide l)
  rw [read_ok _ (laid_small l) (by simp at hz; omega), hl]
  have := length_le_wide l
  show go 41 [] (enc l ++ List.replicate (pad (wide l) - wide l) 0) = _
  rw [go_enc l 41 [] _ h (by omega), go_zeros]; simp
end Go.Proofs.Ytlmbccgldigihaa
