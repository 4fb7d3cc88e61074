/-
  Plain facts for layer 11: a signal, its body, what a text is as a signal, and why it is none; what was laid is read, what was read is laid again. Nothing of the program is here.
-/
import Derived.Test.YtdhkjhkgjfcolaaNumBytes
namespace Go.Proofs.Ytdhkjhkgjfcolaa
set_option linter.unusedVariables false

/-- How many bytes a number has that may be long, if it is there. -/
def wA (h l : Bool) : Nat := if h then (if l then 8 else 4) else 0
def w4 (h : Bool) : Nat := if h then 4 else 0
def w2 (h : Bool) : Nat := if h then 2 else 0
/-- A signal. -/
structure Ds where
  fin : Bool
  ha : Bool
  la : Bool
  ack : Nat
  hm : Bool
  ld : Bool
  dsn : Nat
  ssn : Nat
  len : Int
  hs : Bool
  sum : Nat
/-- How long a body is, without a sum. -/
def siz (ha la hm ld : Bool) : Nat := 2 + wA ha la + wA hm ld + w4 hm + w2 hm
namespace Ds
theorem ext_ {x y : Ds} (h0 : x.fin = y.fin) (h1 : x.ha = y.ha) (h2 : x.la = y.la) (h3 : x.ack = y.ack) (h4 : x.hm = y.hm) (h5 : x.ld = y.ld) (h6 : x.dsn = y.dsn) (h7 : x.ssn = y.ssn) (h8 : x.len = y.len) (h9 : x.hs = y.hs) (h10 : x.sum = y.sum) : x = y := by
  cases x; cases y; simp_all
/-- Its numbers fit their types. -/
structure Ok (x : Ds) : Prop where
  ack : x.ack ≤ 18446744073709551615
  dsn : x.dsn ≤ 18446744073709551615
  ssn : x.ssn ≤ 4294967295
  len : -9223372036854775808 ≤ x.len ∧ x.len ≤ 9223372036854775807
  sum : x.sum ≤ 65535
/-- What belongs to nothing that it has is not there. -/
abbrev Bare (x : Ds) : Prop := (x.ha = false → x.la = false ∧ x.ack = 0) ∧ (x.hm = false → x.fin = false ∧ x.ld = false ∧ x.dsn = 0 ∧ x.ssn = 0 ∧ x.len = 0 ∧ x.hs = false) ∧ (x.hs = false → x.sum = 0)
/-- It may be. -/
abbrev May (x : Ds) : Prop := (x.ha = true ∨ x.hm = true) ∧ x.Bare ∧ (x.la = true ∨ x.ack ≤ 4294967295) ∧ (x.ld = true ∨ x.dsn ≤ 4294967295) ∧ 0 ≤ x.len ∧ x.len ≤ 65535
/-- What it has alone. -/
def bare (x : Ds) : Ds := ⟨x.hm && x.fin, x.ha, x.ha && x.la, if x.ha then x.ack else 0, x.hm, x.hm && x.ld, if x.hm then x.dsn else 0, if x.hm then x.ssn else 0, if x.hm then x.len else 0, x.hm && x.hs, if x.hm && x.hs then x.sum else 0⟩
theorem bare_iff (x : Ds) : x.bare = x ↔ x.Bare := by
  obtain ⟨fin, ha, la, ack, hm, ld, dsn, ssn, len, hs, sum⟩ := x
  cases ha <;> cases hm <;> cases hs <;> simp [bare, Bare, eq_comm, and_assoc] <;> (constructor <;> (intro h; simp_all))
theorem bare_ok (x : Ds) (h : x.Ok) : x.bare.Ok := by
  obtain ⟨h1, h2, h3, h4, h5⟩ := h
  refine ⟨?_, ?_, ?_, ?_, ?_⟩ <;> simp only [bare] <;> split <;> omega
def bits (x : Ds) : Nat := (if x.ha then 1 else 0) + (if x.la then 2 else 0) + (if x.hm then 4 else 0) + (if x.ld then 8 else 0) + (if x.fin then 16 else 0)
theorem bits_lt (x : Ds) : x.bits < 32 := by unfold bits; (repeat' split) <;> omega
/-- The bytes behind the first two. -/
def rest (x : Ds) : List UInt8 := be (wA x.ha x.la) x.ack ++ be (wA x.hm x.ld) x.dsn ++ be (w4 x.hm) x.ssn ++ be (w2 x.hm) x.len.toNat ++ be (w2 x.hs) x.sum
def body (x : Ds) : List UInt8 := 32 :: UInt8.ofNat x.bits :: x.rest
def size (x : Ds) : Nat := siz x.ha x.la x.hm x.ld
theorem rest_size (x : Ds) : x.rest.length + 2 = x.size + w2 x.hs := by
  unfold rest size siz; simp only [List.length_append, be_length]; omega
theorem body_size (x : Ds) : x.body.length = x.size + w2 x.hs := by rw [← rest_size]; rfl
def zero : Ds := ⟨false, false, false, 0, false, false, 0, 0, 0, false, 0⟩
theorem zero_ok : zero.Ok := ⟨by decide, by decide, by decide, by decide, by decide⟩
/-- What is answered where it is laid: its body, or why there is none. -/
def enc (x : Ds) : ByteArray × Int := if x.May then (txt x.body, 0) else (⟨#[]⟩, 2)
theorem enc_t (x : Ds) (h : x.May) : x.enc = (txt x.body, 0) := if_pos h
theorem enc_f (x : Ds) (h : ¬ x.May) : x.enc = (⟨#[]⟩, 2) := if_neg h
end Ds
theorem wA_le (h l : Bool) : wA h l ≤ 8 := by cases h <;> cases l <;> decide
theorem w4_le (h : Bool) : w4 h ≤ 4 := by cases h <;> decide
theorem w2_le (h : Bool) : w2 h ≤ 2 := by cases h <;> decide
theorem Ds.size_le (x : Ds) : x.size ≤ 26 := by
  unfold Ds.size siz; have := wA_le x.ha x.la; have := wA_le x.hm x.ld; have := w4_le x.hm; have := w2_le x.hm; omega
/-- A bit of a byte, told by its number. -/
def fl (c k : Nat) : Bool := decide (c / k % 2 = 1)
/-- What a text is, as a signal whose second byte is c, with a sum, or without. -/
def gotc (c : Nat) (s : ByteArray) (hs : Bool) : Ds :=
  let a := wA (fl c 1) (fl c 1 && fl c 2)
  let d := wA (fl c 4) (fl c 4 && fl c 8)
  ⟨fl c 4 && fl c 16, fl c 1, fl c 1 && fl c 2, num s 2 a, fl c 4, fl c 4 && fl c 8, num s (2 + a) d, num s (2 + a + d) (w4 (fl c 4)), (num s (2 + a + d + w4 (fl c 4)) (w2 (fl c 4)) : Int), hs, num s (2 + a + d + w4 (fl c 4) + w2 (fl c 4)) (w2 hs)⟩
/-- How long a body is with such a second byte, without a sum. -/
def sizc (c : Nat) : Nat := siz (fl c 1) (fl c 1 && fl c 2) (fl c 4) (fl c 4 && fl c 8)
def decc (c : Nat) (s : ByteArray) : Ds × Int :=
  if fl c 1 = false ∧ fl c 4 = false then (.zero, 5) else if s.size < sizc c then (.zero, 4) else if s.size = sizc c then (gotc c s false, 0) else if fl c 4 = true ∧ s.size = sizc c + 2 then (gotc c s true, 0) else (.zero, 5)
/-- What a text is, as a signal, or why it is none. -/
def dec (s : ByteArray) : Ds × Int :=
  if s.size = 0 then (.zero, 4) else if byteAt s 0 / 16 ≠ 2 then (.zero, 7) else if s.size < 2 then (.zero, 4) else decc (byteAt s 1) s
theorem dec_short (s : ByteArray) (h : s.size = 0) : dec s = (.zero, 4) := if_pos h
theorem dec_kind (s : ByteArray) (h : s.size ≠ 0) (k : byteAt s 0 / 16 ≠ 2) : dec s = (.zero, 7) := by unfold dec; rw [if_neg h, if_pos k]
theorem dec_one (s : ByteArray) (h : s.size = 1) (k : byteAt s 0 / 16 = 2) : dec s = (.zero, 4) := by unfold dec; rw [if_neg (by omega), if_neg (fun n => n k), if_pos (by omega)]
theorem dec_two (s : ByteArray) (h : 2 ≤ s.size) (k : byteAt s 0 / 16 = 2) : dec s = decc (byteAt s 1) s := by unfold dec; rw [if_neg (by omega), if_neg (fun n => n k), if_neg (by omega)]
theorem gotc_ok (c : Nat) (s : ByteArray) (hs : Bool) : (gotc c s hs).Ok := by
  have h1 := fun k => num_le8 s k (wA (fl c 1) (fl c 1 && fl c 2)) (wA_le _ _)
  have h2 := fun k => num_le8 s k (wA (fl c 4) (fl c 4 && fl c 8)) (wA_le _ _)
  have h4 : ∀ k h, num s k (w4 h) ≤ 4294967295 := fun k h => by cases h; simp [w4, num]; have := num_lt s k 4; simp only [w4]; simp at this ⊢; omega
  have h5 : ∀ k h, num s k (w2 h) ≤ 65535 := fun k h => by cases h; simp [w2, num]; have := num_lt s k 2; simp only [w2]; simp at this ⊢; omega
  refine ⟨h1 _, h2 _, h4 _ _, ?_, h5 _ _⟩
  have := h5 (2 + wA (fl c 1) (fl c 1 && fl c 2) + wA (fl c 4) (fl c 4 && fl c 8) + w4 (fl c 4)) (fl c 4)
  simp only [gotc]
  omega
theorem gotc_may (c : Nat) (s : ByteArray) (hs : Bool) (h : ¬ (fl c 1 = false ∧ fl c 4 = false)) (h2 : hs = true → fl c 4 = true) : (gotc c s hs).May := by
  have l4 : ∀ k, num s k 4 ≤ 4294967295 := fun k => by have := num_lt s k 4; omega
  have l2 : ∀ k, num s k 2 ≤ 65535 := fun k => by have := num_lt s k 2; omega
  have l0 : ∀ k, num s k 0 = 0 := fun k => rfl
  unfold gotc
  generalize fl c 1 = a at *
  generalize fl c 2 = b at *
  generalize fl c 4 = m at *
  generalize fl c 8 = d at *
  generalize fl c 16 = f at *
  simp only []
  refine ⟨?_, ⟨?_, ?_, ?_⟩, ?_, ?_, ?_, ?_⟩ <;> simp only []
  · cases a <;> cases m <;> simp at h ⊢
  · rintro rfl; exact ⟨rfl, rfl⟩
  · rintro rfl
    refine ⟨rfl, rfl, rfl, rfl, rfl, ?_⟩
    cases hs
    · rfl
    · cases h2 rfl
  · rintro rfl; rfl
  · cases a
    · exact .inr (by show num s 2 0 ≤ _; rw [l0]; omega)
    · cases b
      · exact .inr (l4 _)
      · exact .inl rfl
  · cases m
    · exact .inr (by show num s _ 0 ≤ _; rw [l0]; omega)
    · cases d
      · exact .inr (l4 _)
      · exact .inl rfl
  · omega
  · cases m
    · show ((num s _ 0 : Nat) : Int) ≤ _; rw [l0]; omega
    · have := l2 (2 + wA a (a && b) + wA true (true && d) + w4 true)
      show ((num s (2 + wA a (a && b) + wA true (true && d) + w4 true) 2 : Nat) : Int) ≤ _
      omega
theorem decc_cases (c : Nat) (s : ByteArray) : ((decc c s).1 = .zero ∧ ((decc c s).2 = 4 ∨ (decc c s).2 = 5)) ∨ (∃ hs, ¬ (fl c 1 = false ∧ fl c 4 = false) ∧ (hs = true → fl c 4 = true) ∧ s.size = sizc c + w2 hs ∧ decc c s = (gotc c s hs, 0)) := by
  unfold decc
  by_cases h1 : fl c 1 = false ∧ fl c 4 = false
  · rw [if_pos h1]; exact .inl ⟨rfl, .inr rfl⟩
  rw [if_neg h1]
  by_cases h2 : s.size < sizc c
  · rw [if_pos h2]; exact .inl ⟨rfl, .inl rfl⟩
  rw [if_neg h2]
  by_cases h3 : s.size = sizc c
  · rw [if_pos h3]; exact .inr ⟨false, h1, (fun h => nomatch h), h3, rfl⟩
  rw [if_neg h3]
  by_cases h4 : fl c 4 = true ∧ s.size = sizc c + 2
  · rw [if_pos h4]; exact .inr ⟨true, h1, fun _ => h4.1, h4.2, rfl⟩
  · rw [if_neg h4]; exact .inl ⟨rfl, .inr rfl⟩
theorem dec_cases (s : ByteArray) : ((dec s).1 = .zero ∧ (dec s).2 ≠ 0) ∨ (∃ hs, 2 ≤ s.size ∧ byteAt s 0 / 16 = 2 ∧ ¬ (fl (byteAt s 1) 1 = false ∧ fl (byteAt s 1) 4 = false) ∧ (hs = true → fl (byteAt s 1) 4 = true) ∧ s.size = sizc (byteAt s 1) + w2 hs ∧ dec s = (gotc (byteAt s 1) s hs, 0)) := by
  by_cases h0 : s.size = 0
  · rw [dec_short s h0]; exact .inl ⟨rfl, by decide⟩
  by_cases hk : byteAt s 0 / 16 = 2
  · by_cases h1 : s.size = 1
    · rw [dec_one s h1 hk]; exact .inl ⟨rfl, by decide⟩
    · rw [dec_two s (by omega) hk]
      rcases decc_cases (byteAt s 1) s with ⟨h, h'⟩ | ⟨hs, q1, q2, q3, q4⟩
      · exact .inl ⟨h, by rcases h' with h' | h' <;> rw [h'] <;> decide⟩
      · exact .inr ⟨hs, by omega, hk, q1, q2, q3, q4⟩
  · rw [dec_kind s h0 hk]; exact .inl ⟨rfl, by decide⟩
theorem dec_ok (s : ByteArray) : (dec s).1.Ok := by
  rcases dec_cases s with ⟨h, _⟩ | ⟨hs, _, _, _, _, _, h⟩ <;> rw [h]
  · exact Ds.zero_ok
  · exact gotc_ok _ _ _
theorem dec_none (s : ByteArray) (h : (dec s).2 ≠ 0) : (dec s).1 = .zero := by
  rcases dec_cases s with ⟨h', _⟩ | ⟨hs, _, _, _, _, _, h'⟩
  · exact h'
  · rw [h'] at h; exact absurd rfl h

/-! ### What is laid -/
theorem ack_lt (x : Ds) (hx : x.Ok) (hm : x.May) : x.ack < 256 ^ wA x.ha x.la := by
  have := hx.ack
  obtain ⟨_, ⟨h1, _, _⟩, h2, _⟩ := hm
  unfold wA
  cases ha : x.ha
  · have := (h1 ha).2; simp; omega
  · cases hl : x.la
    · rw [hl] at h2; simp at h2 ⊢; omega
    · simp; omega
theorem dsn_lt (x : Ds) (hx : x.Ok) (hm : x.May) : x.dsn < 256 ^ wA x.hm x.ld := by
  have := hx.dsn
  obtain ⟨_, ⟨_, h1, _⟩, _, h2, _⟩ := hm
  unfold wA
  cases ha : x.hm
  · have := (h1 ha).2.2.1; simp; omega
  · cases hl : x.ld
    · rw [hl] at h2; simp at h2 ⊢; omega
    · simp; omega
theorem ssn_lt (x : Ds) (hx : x.Ok) (hm : x.May) : x.ssn < 256 ^ w4 x.hm := by
  have := hx.ssn
  obtain ⟨_, ⟨_, h1, _⟩, _⟩ := hm
  unfold w4
  cases ha : x.hm
  · have := (h1 ha).2.2.2.1; simp; omega
  · simp; omega
theorem len_lt (x : Ds) (hx : x.Ok) (hm : x.May) : x.len.toNat < 256 ^ w2 x.hm := by
  obtain ⟨_, ⟨_, h1, _⟩, _, _, l0, l1⟩ := hm
  unfold w2
  cases ha : x.hm
  · have := (h1 ha).2.2.2.2.1; simp; omega
  · simp; omega
theorem sum_lt (x : Ds) (hx : x.Ok) (hm : x.May) : x.sum < 256 ^ w2 x.hs := by
  have := hx.sum
  obtain ⟨_, ⟨_, _, h1⟩, _⟩ := hm
  unfold w2
  cases ha : x.hs
  · have := h1 ha; simp; omega
  · simp; omega
/-- That a second byte tells of a signal what it has. -/
abbrev Tells (c : Nat) (x : Ds) : Prop := fl c 1 = x.ha ∧ (fl c 1 && fl c 2) = x.la ∧ fl c 4 = x.hm ∧ (fl c 4 && fl c 8) = x.ld ∧ (fl c 4 && fl c 16) = x.fin
theorem bits_tell (x : Ds) (h : x.Bare) : Tells x.bits x := by
  obtain ⟨fin, ha, la, ack, hm, ld, dsn, ssn, len, hs, sum⟩ := x
  obtain ⟨h1, h2, _⟩ := h
  have t : ∀ f a l m d : Bool, (a = false → l = false) → (m = false → f = false ∧ d = false) → Tells (Ds.bits ⟨f, a, l, 0, m, d, 0, 0, 0, false, 0⟩) ⟨f, a, l, 0, m, d, 0, 0, 0, false, 0⟩ := by decide
  exact t fin ha la hm ld (fun q => (h1 q).1) (fun q => ⟨(h2 q).1, (h2 q).2.1⟩)
/-- What stands in a text that begins with two bytes, the second one of which tells what a signal has. -/
theorem gotc_of (x : Ds) (hx : x.Ok) (hm : x.May) (u v : UInt8) (c : Nat) (ht : Tells c x) (more : List UInt8) : gotc c (txt (u :: v :: (x.rest ++ more))) x.hs = x := by
  have e1 := ack_lt x hx hm
  have e2 := dsn_lt x hx hm
  have e3 := ssn_lt x hx hm
  have e4 := len_lt x hx hm
  have e5 := sum_lt x hx hm
  have l0 := hm.2.2.2.2.1
  obtain ⟨t1, t2, t3, t4, t5⟩ := ht
  unfold gotc
  simp only []
  rw [t2, t4, t5, t1, t3]
  have hl : ∀ (m n : Nat), (be m n).length = m := be_length
  have n1 := num_mid [u, v] (be (wA x.hm x.ld) x.dsn ++ be (w4 x.hm) x.ssn ++ be (w2 x.hm) x.len.toNat ++ be (w2 x.hs) x.sum ++ more) 2 (wA x.ha x.la) x.ack rfl
  have n2 := num_mid ([u, v] ++ be (wA x.ha x.la) x.ack) (be (w4 x.hm) x.ssn ++ be (w2 x.hm) x.len.toNat ++ be (w2 x.hs) x.sum ++ more) (2 + wA x.ha x.la) (wA x.hm x.ld) x.dsn (by simp only [List.length_append, hl, List.length_cons, List.length_nil])
  have n3 := num_mid ([u, v] ++ be (wA x.ha x.la) x.ack ++ be (wA x.hm x.ld) x.dsn) (be (w2 x.hm) x.len.toNat ++ be (w2 x.hs) x.sum ++ more) (2 + wA x.ha x.la + wA x.hm x.ld) (w4 x.hm) x.ssn (by simp only [List.length_append, hl, List.length_cons, List.length_nil])
  have n4 := num_mid ([u, v] ++ be (wA x.ha x.la) x.ack ++ be (wA x.hm x.ld) x.dsn ++ be (w4 x.hm) x.ssn) (be (w2 x.hs) x.sum ++ more) (2 + wA x.ha x.la + wA x.hm x.ld + w4 x.hm) (w2 x.hm) x.len.toNat (by simp only [List.length_append, hl, List.length_cons, List.length_nil])
  have n5 := num_mid ([u, v] ++ be (wA x.ha x.la) x.ack ++ be (wA x.hm x.ld) x.dsn ++ be (w4 x.hm) x.ssn ++ be (w2 x.hm) x.len.toNat) more (2 + wA x.ha x.la + wA x.hm x.ld + w4 x.hm + w2 x.hm) (w2 x.hs) x.sum (by simp only [List.length_append, hl, List.length_cons, List.length_nil])
  rw [Nat.mod_eq_of_lt e1] at n1
  rw [Nat.mod_eq_of_lt e2] at n2
  rw [Nat.mod_eq_of_lt e3] at n3
  rw [Nat.mod_eq_of_lt e4] at n4
  rw [Nat.mod_eq_of_lt e5] at n5
  have hL : ∀ L, L = u :: v :: (x.rest ++ more) → [u, v] ++ be (wA x.ha x.la) x.ack ++ (be (wA x.hm x.ld) x.dsn ++ be (w4 x.hm) x.ssn ++ be (w2 x.hm) x.len.toNat ++ be (w2 x.hs) x.sum ++ more) = L := by
    rintro L rfl; simp [Ds.rest]
  obtain ⟨L, hLe⟩ : ∃ L, L = u :: v :: (x.rest ++ more) := ⟨_, rfl⟩
  have hL := hL L hLe
  rw [← hLe]
  simp only [List.append_assoc] at n1 n2 n3 n4 n5 hL
  rw [hL] at n1 n2 n3 n4 n5
  rw [n1, n2, n3, n4, n5]
  exact Ds.ext_ rfl rfl rfl rfl rfl rfl rfl rfl (by simp only []; omega) rfl rfl
theorem sizc_of (x : Ds) (c : Nat) (ht : Tells c x) : sizc c = x.size := by
  obtain ⟨t1, t2, t3, t4, t5⟩ := ht
  unfold sizc Ds.size; rw [t2, t1, t4, t3]
theorem has_of (x : Ds) (hm : x.May) (c : Nat) (ht : Tells c x) : ¬ (fl c 1 = false ∧ fl c 4 = false) := by
  obtain ⟨t1, t2, t3, t4, t5⟩ := ht
  rw [t1, t3]
  rcases hm.1 with h | h <;> rw [h] <;> simp
theorem two_size (u v : UInt8) (r : List UInt8) : (txt (u :: v :: r)).size = r.length + 2 := by rw [txt_size]; rfl
theorem two_0 (u v : UInt8) (r : List UInt8) : byteAt (txt (u :: v :: r)) 0 = u.toNat := rfl
theorem two_1 (u v : UInt8) (r : List UInt8) : byteAt (txt (u :: v :: r)) 1 = v.toNat := rfl
/-- **What was laid is read**, whatever bits are there that do not count. -/
theorem dec_of (x : Ds) (hx : x.Ok) (hm : x.May) (u v : UInt8) (hu : u.toNat / 16 = 2) (ht : Tells v.toNat x) : dec (txt (u :: v :: x.rest)) = (x, 0) := by
  have hr := x.rest_size
  have hg := gotc_of x hx hm u v v.toNat ht []
  rw [List.append_nil] at hg
  rw [dec_two _ (by rw [two_size]; omega) (by rw [two_0]; exact hu), two_1, decc, if_neg (has_of x hm _ ht), two_size, sizc_of x _ ht]
  have h2 := hm.2.1.2.1
  rw [if_neg (by omega)]
  cases hs : x.hs
  · rw [hs] at hr hg
    rw [if_pos (by simpa [w2] using hr), hg]
  · rw [hs] at hr hg
    have e4 : fl v.toNat 4 = true := by
      rw [ht.2.2.1]
      cases h : x.hm
      · have := (h2 h).2.2.2.2.2; rw [hs] at this; cases this
      · rfl
    have hr : x.rest.length + 2 = x.size + 2 := hr
    rw [if_neg (by omega), if_pos ⟨e4, hr⟩, hg]
theorem u8_bits (x : Ds) : (UInt8.ofNat x.bits).toNat = x.bits := by have := x.bits_lt; rw [UInt8.toNat_ofNat', show (2 : Nat) ^ 8 = 256 from rfl]; omega
theorem dec_body (x : Ds) (hx : x.Ok) (hm : x.May) : dec (txt x.body) = (x, 0) :=
  dec_of x hx hm 32 (UInt8.ofNat x.bits) rfl (by rw [u8_bits]; exact bits_tell x hm.2.1)

/-! ### What is read -/
theorem rest_bytes (s : ByteArray) (a m : Nat) (h : a + m ≤ s.size) : be m (num s a m) ++ s.data.toList.drop (a + m) = s.data.toList.drop a := by
  rw [be_num s a m h, ← List.drop_drop, List.take_append_drop]
theorem gotc_bits (c : Nat) (s : ByteArray) (hs : Bool) (hc : c < 256) : (gotc c s hs).bits &&& c = (gotc c s hs).bits := by
  have : ∀ c : Fin 256, ((if fl c.val 1 then 1 else 0) + (if fl c.val 1 && fl c.val 2 then 2 else 0) + (if fl c.val 4 then 4 else 0) + (if fl c.val 4 && fl c.val 8 then 8 else 0) + (if fl c.val 4 && fl c.val 16 then 16 else 0)) &&& c.val = ((if fl c.val 1 then 1 else 0) + (if fl c.val 1 && fl c.val 2 then 2 else 0) + (if fl c.val 4 then 4 else 0) + (if fl c.val 4 && fl c.val 8 then 8 else 0) + (if fl c.val 4 && fl c.val 16 then 16 else 0)) := by decide +kernel
  exact this ⟨c, hc⟩
theorem gotc_rest (c : Nat) (s : ByteArray) (hs : Bool) (h : s.size = sizc c + w2 hs) : (gotc c s hs).rest = s.data.toList.drop 2 := by
  unfold sizc siz at h
  generalize ea : wA (fl c 1) (fl c 1 && fl c 2) = a at h
  generalize ed : wA (fl c 4) (fl c 4 && fl c 8) = d at h
  generalize e4 : w4 (fl c 4) = m at h
  generalize e2 : w2 (fl c 4) = l at h
  generalize es : w2 hs = r at h
  have r1 := rest_bytes s 2 a (by omega)
  have r2 := rest_bytes s (2 + a) d (by omega)
  have r3 := rest_bytes s (2 + a + d) m (by omega)
  have r4 := rest_bytes s (2 + a + d + m) l (by omega)
  have r5 := rest_bytes s (2 + a + d + m + l) r (by omega)
  have hln : s.data.toList.length = s.size := len_data s
  rw [List.drop_of_length_le (i := 2 + a + d + m + l + r) (by omega), List.append_nil] at r5
  rw [← r1, ← r2, ← r3, ← r4, ← r5]
  unfold Ds.rest gotc
  simp only []
  rw [ea, ed, e4, e2, es]
  simp only [List.append_assoc, Int.toNat_natCast]
/-- **What was read is laid again.** -/
theorem body_got (c : Nat) (s : ByteArray) (hs : Bool) (h : s.size = sizc c + w2 hs) : (gotc c s hs).body = 32 :: UInt8.ofNat (gotc c s hs).bits :: s.data.toList.drop 2 := by
  unfold Ds.body; rw [gotc_rest c s hs h]
end Go.Proofs.Ytdhkjhkgjfcolaa
