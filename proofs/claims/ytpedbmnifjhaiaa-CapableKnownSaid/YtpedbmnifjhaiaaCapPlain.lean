/-
  Plain facts for layer 9: an option, its body, what a text is as an option; what was laid is read, what was read is laid again. Nothing of the program is here.
-/
import Derived.Test.YtpedbmnifjhaiaaNumBytes
namespace Go.Proofs.Ytpedbmnifjhaiaa
set_option linter.unusedVariables false

/-- An option. -/
structure Cap where
  form : Int
  ver : Int
  sums : Bool
  alone : Bool
  own : Nat
  peer : Nat
  len : Int
  sum : Nat
namespace Cap
/-- Its numbers fit their types. -/
structure Ok (x : Cap) : Prop where
  form : -9223372036854775808 ≤ x.form ∧ x.form ≤ 9223372036854775807
  ver : -9223372036854775808 ≤ x.ver ∧ x.ver ≤ 9223372036854775807
  len : -9223372036854775808 ≤ x.len ∧ x.len ≤ 9223372036854775807
  own : x.own ≤ 18446744073709551615
  peer : x.peer ≤ 18446744073709551615
  sum : x.sum ≤ 65535
/-- It may be. -/
abbrev May (x : Cap) : Prop := (0 ≤ x.form ∧ x.form < 5) ∧ (0 ≤ x.ver ∧ x.ver ≤ 15) ∧ (0 ≤ x.len ∧ x.len ≤ 65535) ∧ (x.form < 1 → x.own = 0) ∧ (x.form < 2 → x.peer = 0) ∧ (x.form < 3 → x.len = 0) ∧ (x.form < 4 → x.sum = 0)
def flags (x : Cap) : Nat := 1 + (if x.sums then 128 else 0) + (if x.alone then 32 else 0)
def all (x : Cap) : List UInt8 := be 1 x.ver.toNat ++ be 1 x.flags ++ be 8 x.own ++ be 8 x.peer ++ be 2 x.len.toNat ++ be 2 x.sum
def size (f : Int) : Nat := if f = 0 then 2 else if f = 1 then 10 else (14 + 2 * f).toNat
def body (x : Cap) : List UInt8 := x.all.take (size x.form)
def zero : Cap := ⟨0, 0, false, false, 0, 0, 0, 0⟩
/-- What is answered where it is laid: its body, or why there is none. -/
def enc (x : Cap) : ByteArray × Int := if x.May then (txt x.body, 0) else (txt [], 2)
theorem flags_lt (x : Cap) : x.flags < 256 := by unfold flags; split <;> split <;> omega
theorem zero_ok : zero.Ok := ⟨by decide, by decide, by decide, by decide, by decide, by decide⟩
end Cap
def formOf (n : Nat) : Option Nat := if n = 2 then some 0 else if n = 10 then some 1 else if n = 18 then some 2 else if n = 20 then some 3 else if n = 22 then some 4 else none
/-- What a text is that is as long as a form's body. -/
def got (f : Nat) (s : ByteArray) : Cap := ⟨(f : Int), (byteAt s 0 : Int), decide (128 ≤ byteAt s 1), decide (byteAt s 1 / 32 % 2 = 1), num s 2 8, num s 10 8, (num s 18 2 : Int), num s 20 2⟩
/-- What a text is, as an option, or why it is none. -/
def dec (s : ByteArray) : Cap × Int :=
  if s.size = 0 then (.zero, 4) else if 16 ≤ byteAt s 0 then (.zero, 7) else match formOf s.size with
    | none => (.zero, 5)
    | some f => if byteAt s 1 % 2 = 0 then (.zero, 2) else (got f s, 0)

theorem formOf_cases (n : Nat) : (n = 2 ∧ formOf n = some 0) ∨ (n = 10 ∧ formOf n = some 1) ∨ (n = 18 ∧ formOf n = some 2) ∨ (n = 20 ∧ formOf n = some 3) ∨ (n = 22 ∧ formOf n = some 4) ∨ ((n ≠ 2 ∧ n ≠ 10 ∧ n ≠ 18 ∧ n ≠ 20 ∧ n ≠ 22) ∧ formOf n = none) := by
  unfold formOf
  by_cases h2 : n = 2
  · exact .inl ⟨h2, if_pos h2⟩
  by_cases h10 : n = 10
  · exact .inr (.inl ⟨h10, by rw [if_neg h2, if_pos h10]⟩)
  by_cases h18 : n = 18
  · exact .inr (.inr (.inl ⟨h18, by rw [if_neg h2, if_neg h10, if_pos h18]⟩))
  by_cases h20 : n = 20
  · exact .inr (.inr (.inr (.inl ⟨h20, by rw [if_neg h2, if_neg h10, if_neg h18, if_pos h20]⟩)))
  by_cases h22 : n = 22
  · exact .inr (.inr (.inr (.inr (.inl ⟨h22, by rw [if_neg h2, if_neg h10, if_neg h18, if_neg h20, if_pos h22]⟩))))
  · exact .inr (.inr (.inr (.inr (.inr ⟨⟨h2, h10, h18, h20, h22⟩, by rw [if_neg h2, if_neg h10, if_neg h18, if_neg h20, if_neg h22]⟩))))
theorem got_ok (f : Nat) (hf : f < 5) (s : ByteArray) : (got f s).Ok := by
  have h0 := byteAt_lt s 0
  have h8 := num_le8 s 2 8 (by omega)
  have h9 := num_le8 s 10 8 (by omega)
  have h18 := num_lt s 18 2
  have h20 := num_lt s 20 2
  exact ⟨by simp only [got]; omega, by simp only [got]; omega, by simp only [got]; omega, h8, h9, by simp only [got]; omega⟩
theorem dec_ok (s : ByteArray) : (dec s).1.Ok := by
  unfold dec
  split
  · exact Cap.zero_ok
  split
  · exact Cap.zero_ok
  rcases formOf_cases s.size with ⟨_, h⟩ | ⟨_, h⟩ | ⟨_, h⟩ | ⟨_, h⟩ | ⟨_, h⟩ | ⟨_, h⟩ <;> rw [h] <;> simp only []
  all_goals first | exact Cap.zero_ok | skip
  all_goals (split <;> first | exact Cap.zero_ok | exact got_ok _ (by omega) s)

/-! ### What is laid -/
namespace Cap
/-- The bytes that a form's fields have. -/
def front (x : Cap) : List UInt8 := be 1 x.ver.toNat ++ be 1 x.flags
theorem front_length (x : Cap) : x.front.length = 2 := by simp [front, be_length]
theorem front_drop (x : Cap) (r : List UInt8) : (x.front ++ r).drop 2 = r := by rw [List.drop_append_of_le_length (by rw [front_length]; omega), List.drop_of_length_le (by rw [front_length]; omega), List.nil_append]
theorem body0 (x : Cap) (h : x.form = 0) : x.body = x.front := by
  unfold body size all; rw [if_pos h, ← front]
  simp only [List.append_assoc]
  rw [List.take_append_of_le_length (by rw [front_length]; omega), List.take_of_length_le (by rw [front_length]; omega)]
theorem body1 (x : Cap) (h : x.form = 1) : x.body = x.front ++ be 8 x.own := by
  unfold body size all; rw [if_neg (by omega), if_pos h, ← front]
  have : (x.front ++ be 8 x.own).length = 10 := by simp [front_length, be_length]
  simp only [List.append_assoc] at this ⊢
  rw [← List.append_assoc, List.take_append_of_le_length (by simp [front_length, be_length]), List.take_of_length_le (by simp [front_length, be_length])]
theorem body2 (x : Cap) (h : x.form = 2) : x.body = x.front ++ be 8 x.own ++ be 8 x.peer := by
  unfold body size all; rw [if_neg (by omega), if_neg (by omega), h, ← front]
  rw [List.append_assoc _ (be 2 _) (be 2 _), List.take_append_of_le_length (by simp [front_length, be_length]), List.take_of_length_le (by simp [front_length, be_length])]
theorem body3 (x : Cap) (h : x.form = 3) : x.body = x.front ++ be 8 x.own ++ be 8 x.peer ++ be 2 x.len.toNat := by
  unfold body size all; rw [if_neg (by omega), if_neg (by omega), h, ← front]
  rw [List.take_append_of_le_length (by simp [front_length, be_length]), List.take_of_length_le (by simp [front_length, be_length])]
theorem body4 (x : Cap) (h : x.form = 4) : x.body = x.front ++ be 8 x.own ++ be 8 x.peer ++ be 2 x.len.toNat ++ be 2 x.sum := by
  unfold body size all; rw [if_neg (by omega), if_neg (by omega), h, ← front]
  rw [List.take_of_length_le (by simp [front_length, be_length])]
/-- The body of any form is its first two bytes and more. -/
theorem body_front (x : Cap) (h : 0 ≤ x.form) (h' : x.form < 5) : ∃ r, x.body = x.front ++ r := by
  have : x.form = 0 ∨ x.form = 1 ∨ x.form = 2 ∨ x.form = 3 ∨ x.form = 4 := by omega
  rcases this with h | h | h | h | h
  · exact ⟨[], by rw [x.body0 h, List.append_nil]⟩
  · exact ⟨_, x.body1 h⟩
  · exact ⟨_, by rw [x.body2 h, List.append_assoc]⟩
  · exact ⟨_, by rw [x.body3 h, List.append_assoc, List.append_assoc]⟩
  · exact ⟨_, by rw [x.body4 h, List.append_assoc, List.append_assoc, List.append_assoc]⟩
theorem body_size (x : Cap) (h : 0 ≤ x.form) (h' : x.form < 5) : x.body.length = size x.form := by
  have : x.form = 0 ∨ x.form = 1 ∨ x.form = 2 ∨ x.form = 3 ∨ x.form = 4 := by omega
  rcases this with h | h | h | h | h
  · rw [x.body0 h, h, front_length]; rfl
  · rw [x.body1 h, h]; simp [front_length, be_length, size]
  · rw [x.body2 h, h]; simp [front_length, be_length, size]
  · rw [x.body3 h, h]; simp [front_length, be_length, size]
  · rw [x.body4 h, h]; simp [front_length, be_length, size]
theorem size_form (f : Int) (h : 0 ≤ f) (h' : f < 5) : formOf (size f) = some f.toNat := by
  have : f = 0 ∨ f = 1 ∨ f = 2 ∨ f = 3 ∨ f = 4 := by omega
  rcases this with h | h | h | h | h <;> subst h <;> rfl
/-- What stands in a text that begins with an option's first two bytes, whatever flags are there. -/
theorem got_of (x : Cap) (hx : x.Ok) (hm : x.May) (c : Nat) (hc : c < 256) (h1 : decide (128 ≤ c) = x.sums) (h2 : decide (c / 32 % 2 = 1) = x.alone) : got x.form.toNat (txt (be 1 x.ver.toNat ++ be 1 c ++ x.body.drop 2)) = x := by
  obtain ⟨⟨f0, f5⟩, ⟨v0, v15⟩, ⟨l0, l6⟩, mo, mp, ml, ms⟩ := hm
  have hcases : x.form = 0 ∨ x.form = 1 ∨ x.form = 2 ∨ x.form = 3 ∨ x.form = 4 := by omega
  have hfl : (be 1 x.ver.toNat ++ be 1 c).length = 2 := by simp [be_length]
  have b0 : ∀ r, byteAt (txt (be 1 x.ver.toNat ++ be 1 c ++ r)) 0 = x.ver.toNat := fun r => by
    have := num_mid [] (be 1 c ++ r) 0 1 x.ver.toNat rfl
    rw [List.nil_append, ← List.append_assoc, num_1] at this
    rw [this]; omega
  have b1 : ∀ r, byteAt (txt (be 1 x.ver.toNat ++ be 1 c ++ r)) 1 = c := fun r => by
    have := num_mid (be 1 x.ver.toNat) r 1 1 c (by rw [be_length])
    rw [num_1] at this
    rw [this]; omega
  have eo := hx.own
  have ep := hx.peer
  have es := hx.sum
  obtain ⟨form, ver, sums, alone, own, peer, len, sum⟩ := x
  simp only [] at *
  unfold got
  rw [b0, b1, h1, h2]
  have fin : ∀ a b l s', a = own → b = peer → l = len.toNat → s' = sum → (⟨(form.toNat : Int), (ver.toNat : Int), sums, alone, a, b, (l : Int), s'⟩ : Cap) = ⟨form, ver, sums, alone, own, peer, len, sum⟩ := by
    intro a b l s' e1 e2 e3 e4
    subst e1; subst e2; subst e4
    have : (l : Int) = len := by omega
    rw [this, show (form.toNat : Int) = form by omega, show (ver.toNat : Int) = ver by omega]
  have past : ∀ (L : List UInt8) k m, L.length ≤ k → num (txt L) k m = 0 := fun L k m h => num_past _ _ (by rw [txt_size]; exact h) m
  rcases hcases with h | h | h | h | h
  · rw [body0 _ h, List.drop_of_length_le (by rw [front_length]; omega), List.append_nil]
    exact fin _ _ _ _ (by rw [past _ _ _ (by omega), mo (by omega)]) (by rw [past _ _ _ (by omega), mp (by omega)]) (by rw [past _ _ _ (by omega), ml (by omega)]; rfl) (by rw [past _ _ _ (by omega), ms (by omega)])
  · rw [body1 _ h, front_drop]
    have n1 := num_mid (be 1 ver.toNat ++ be 1 c) [] 2 8 own hfl
    rw [List.append_nil] at n1
    exact fin _ _ _ _ (by rw [n1]; omega) (by rw [past _ _ _ (by simp [be_length]), mp (by omega)]) (by rw [past _ _ _ (by simp [be_length]), ml (by omega)]; rfl) (by rw [past _ _ _ (by simp [be_length]), ms (by omega)])
  · rw [body2 _ h]
    simp only [List.append_assoc (front _)]
    rw [front_drop]
    have n1 := num_mid (be 1 ver.toNat ++ be 1 c) (be 8 peer) 2 8 own hfl
    have n2 := num_mid (be 1 ver.toNat ++ be 1 c ++ be 8 own) [] 10 8 peer (by simp [be_length])
    rw [List.append_nil] at n2
    simp only [List.append_assoc] at n1 n2 ⊢
    exact fin _ _ _ _ (by rw [n1]; omega) (by rw [n2]; omega) (by rw [past _ _ _ (by simp [be_length]), ml (by omega)]; rfl) (by rw [past _ _ _ (by simp [be_length]), ms (by omega)])
  · rw [body3 _ h]
    simp only [List.append_assoc (front _)]
    rw [front_drop]
    have n1 := num_mid (be 1 ver.toNat ++ be 1 c) (be 8 peer ++ be 2 len.toNat) 2 8 own hfl
    have n2 := num_mid (be 1 ver.toNat ++ be 1 c ++ be 8 own) (be 2 len.toNat) 10 8 peer (by simp [be_length])
    have n3 := num_mid (be 1 ver.toNat ++ be 1 c ++ be 8 own ++ be 8 peer) [] 18 2 len.toNat (by simp [be_length])
    rw [List.append_nil] at n3
    simp only [List.append_assoc] at n1 n2 n3 ⊢
    exact fin _ _ _ _ (by rw [n1]; omega) (by rw [n2]; omega) (by rw [n3]; omega) (by rw [past _ _ _ (by simp [be_length]), ms (by omega)])
  · rw [body4 _ h]
    simp only [List.append_assoc (front _)]
    rw [front_drop]
    have n1 := num_mid (be 1 ver.toNat ++ be 1 c) (be 8 peer ++ be 2 len.toNat ++ be 2 sum) 2 8 own hfl
    have n2 := num_mid (be 1 ver.toNat ++ be 1 c ++ be 8 own) (be 2 len.toNat ++ be 2 sum) 10 8 peer (by simp [be_length])
    have n3 := num_mid (be 1 ver.toNat ++ be 1 c ++ be 8 own ++ be 8 peer) (be 2 sum) 18 2 len.toNat (by simp [be_length])
    have n4 := num_mid (be 1 ver.toNat ++ be 1 c ++ be 8 own ++ be 8 peer ++ be 2 len.toNat) [] 20 2 sum (by simp [be_length])
    rw [List.append_nil] at n4
    simp only [List.append_assoc] at n1 n2 n3 n4 ⊢
    exact fin _ _ _ _ (by rw [n1]; omega) (by rw [n2]; omega) (by rw [n3]; omega) (by rw [n4]; omega)
theorem dec_of (x : Cap) (hx : x.Ok) (hm : x.May) (c : Nat) (hc : c < 256) (h0 : c % 2 = 1) (h1 : decide (128 ≤ c) = x.sums) (h2 : decide (c / 32 % 2 = 1) = x.alone) : dec (txt (be 1 x.ver.toNat ++ be 1 c ++ x.body.drop 2)) = (x, 0) := by
  have g := x.got_of hx hm c hc h1 h2
  obtain ⟨⟨f0, f5⟩, ⟨v0, v15⟩, _⟩ := hm
  have hsz : (txt (be 1 x.ver.toNat ++ be 1 c ++ x.body.drop 2)).size = size x.form := by
    have hb := x.body_size f0 f5
    obtain ⟨r, hr⟩ := x.body_front f0 f5
    have hr2 := congrArg List.length hr
    rw [List.length_append, front_length] at hr2
    rw [txt_size, List.length_append, List.length_append, be_length, be_length, List.length_drop]
    omega
  have b0 : byteAt (txt (be 1 x.ver.toNat ++ be 1 c ++ x.body.drop 2)) 0 = x.ver.toNat := by
    have := num_mid [] (be 1 c ++ x.body.drop 2) 0 1 x.ver.toNat rfl
    rw [List.nil_append, ← List.append_assoc, num_1] at this
    rw [this]; omega
  have b1 : byteAt (txt (be 1 x.ver.toNat ++ be 1 c ++ x.body.drop 2)) 1 = c := by
    have := num_mid (be 1 x.ver.toNat) (x.body.drop 2) 1 1 c (by rw [be_length])
    rw [num_1] at this
    rw [this]; omega
  have hs0 : size x.form ≠ 0 := by unfold size; split; omega; split <;> omega
  unfold dec
  rw [hsz, if_neg hs0, b0, if_neg (by omega), size_form _ f0 f5]
  simp only []
  rw [b1, if_neg (by omega), g]
theorem flags_odd (x : Cap) : x.flags % 2 = 1 := by unfold flags; split <;> split <;> omega
theorem flags_sums (x : Cap) : decide (128 ≤ x.flags) = x.sums := by obtain ⟨_, _, s, a, _, _, _, _⟩ := x; cases s <;> cases a <;> rfl
theorem flags_alone (x : Cap) : decide (x.flags / 32 % 2 = 1) = x.alone := by obtain ⟨_, _, s, a, _, _, _, _⟩ := x; cases s <;> cases a <;> simp [flags]
theorem body_parts (x : Cap) (h : 0 ≤ x.form) (h' : x.form < 5) : x.body = be 1 x.ver.toNat ++ be 1 x.flags ++ x.body.drop 2 := by
  obtain ⟨r, hr⟩ := x.body_front h h'
  rw [hr, front_drop, front]
/-- **What was laid is read.** -/
theorem dec_body (x : Cap) (hx : x.Ok) (hm : x.May) : dec (txt x.body) = (x, 0) := by
  have := x.dec_of hx hm x.flags x.flags_lt x.flags_odd x.flags_sums x.flags_alone
  rwa [← x.body_parts hm.1.1 hm.1.2] at this
end Cap

/-! ### What is read -/
theorem dec_none (s : ByteArray) (h : (dec s).2 ≠ 0) : (dec s).1 = .zero := by
  unfold dec at h ⊢
  split
  · rfl
  rename_i h1
  rw [if_neg h1] at h
  split
  · rfl
  rename_i h2
  rw [if_neg h2] at h
  rcases formOf_cases s.size with ⟨_, e⟩ | ⟨_, e⟩ | ⟨_, e⟩ | ⟨_, e⟩ | ⟨_, e⟩ | ⟨_, e⟩ <;> rw [e] at h ⊢ <;> simp only [] at h ⊢
  all_goals (split <;> first | rfl | (rename_i h3; rw [if_neg h3] at h; exact absurd rfl h))
theorem dec_some (s : ByteArray) (h : (dec s).2 = 0) : ∃ f : Nat, f < 5 ∧ s.size = Cap.size (f : Int) ∧ byteAt s 0 < 16 ∧ byteAt s 1 % 2 = 1 ∧ (dec s).1 = got f s := by
  unfold dec at h ⊢
  split at h
  · cases h
  rename_i h1
  split at h
  · cases h
  rename_i h2
  rw [if_neg h1, if_neg h2]
  rcases formOf_cases s.size with ⟨z, e⟩ | ⟨z, e⟩ | ⟨z, e⟩ | ⟨z, e⟩ | ⟨z, e⟩ | ⟨_, e⟩ <;> rw [e] at h ⊢ <;> simp only [] at h ⊢
  case inr.inr.inr.inr.inr => cases h
  all_goals (split at h; cases h; rename_i h3; rw [if_neg h3]; refine ⟨_, ?_, ?_, by omega, by omega, rfl⟩; omega; rw [z]; rfl)
/-- The flags that count, of a byte with the lowest bit. -/
theorem flag_bits : ∀ c : Fin 256, c.val % 2 = 1 → 1 + (if decide (128 ≤ c.val) then 128 else 0) + (if decide (c.val / 32 % 2 = 1) then 32 else 0) = c.val &&& 161 := by decide +kernel
theorem got_may (f : Nat) (hf : f < 5) (s : ByteArray) (hs : s.size = Cap.size (f : Int)) (h0 : byteAt s 0 < 16) : (got f s).May := by
  have h18 := num_lt s 18 2
  have hcases : f = 0 ∨ f = 1 ∨ f = 2 ∨ f = 3 ∨ f = 4 := by omega
  refine ⟨⟨by simp only [got]; omega, by simp only [got]; omega⟩, ⟨by simp only [got]; omega, by simp only [got]; omega⟩, ⟨by simp only [got]; omega, by simp only [got]; omega⟩, ?_, ?_, ?_, ?_⟩
  all_goals (intro hlt; simp only [got] at hlt ⊢)
  · obtain rfl : f = 0 := by omega
    exact num_past s 2 (by rw [hs]; decide) 8
  · exact num_past s 10 (by rw [hs]; rcases hcases with h | h | h | h | h <;> subst h <;> first | decide | omega) 8
  · have := num_past s 18 (by rw [hs]; rcases hcases with h | h | h | h | h <;> subst h <;> first | decide | omega) 2
    omega
  · exact num_past s 20 (by rw [hs]; rcases hcases with h | h | h | h | h <;> subst h <;> first | decide | omega) 2
theorem rest_bytes (s : ByteArray) (a m : Nat) (h : a + m ≤ s.size) : be m (num s a m) ++ s.data.toList.drop (a + m) = s.data.toList.drop a := by
  rw [be_num s a m h, ← List.drop_drop, List.take_append_drop]
/-- **What was read is laid again.** -/
theorem body_got (f : Nat) (hf : f < 5) (s : ByteArray) (hs : s.size = Cap.size (f : Int)) (h0 : byteAt s 0 < 16) (h1 : byteAt s 1 % 2 = 1) :
    (got f s).body = be 1 (byteAt s 0) ++ be 1 (byteAt s 1 &&& 161) ++ s.data.toList.drop 2 := by
  have hfl : (got f s).flags = byteAt s 1 &&& 161 := flag_bits ⟨byteAt s 1, byteAt_lt s 1⟩ h1
  have hfr : (got f s).front = be 1 (byteAt s 0) ++ be 1 (byteAt s 1 &&& 161) := by
    unfold Cap.front
    rw [hfl]
    rfl
  have hln : s.data.toList.length = s.size := len_data s
  have el : (got f s).len.toNat = num s 18 2 := by simp [got]
  have eo : (got f s).own = num s 2 8 := rfl
  have ep : (got f s).peer = num s 10 8 := rfl
  have es : (got f s).sum = num s 20 2 := rfl
  have ef : (got f s).form = (f : Int) := rfl
  have hcases : f = 0 ∨ f = 1 ∨ f = 2 ∨ f = 3 ∨ f = 4 := by omega
  rcases hcases with rfl | rfl | rfl | rfl | rfl
  · have z : s.size = 2 := hs
    rw [Cap.body0 _ ef, hfr, List.drop_of_length_le (by omega), List.append_nil]
  · have z : s.size = 10 := hs
    have r1 := rest_bytes s 2 8 (by omega)
    rw [List.drop_of_length_le (by omega), List.append_nil] at r1
    rw [Cap.body1 _ ef, hfr, eo, ← r1]
  · have z : s.size = 18 := hs
    have r1 := rest_bytes s 2 8 (by omega)
    have r2 := rest_bytes s 10 8 (by omega)
    rw [List.drop_of_length_le (by omega), List.append_nil] at r2
    rw [Cap.body2 _ ef, hfr, eo, ep, ← r1, ← r2, List.append_assoc]
  · have z : s.size = 20 := hs
    have r1 := rest_bytes s 2 8 (by omega)
    have r2 := rest_bytes s 10 8 (by omega)
    have r3 := rest_bytes s 18 2 (by omega)
    rw [List.drop_of_length_le (by omega), List.append_nil] at r3
    rw [Cap.body3 _ ef, hfr, eo, ep, el, ← r1, ← r2, ← r3]
    simp only [List.append_assoc]
  · have z : s.size = 22 := hs
    have r1 := rest_bytes s 2 8 (by omega)
    have r2 := rest_bytes s 10 8 (by omega)
    have r3 := rest_bytes s 18 2 (by omega)
    have r4 := rest_bytes s 20 2 (by omega)
    rw [List.drop_of_length_le (by omega), List.append_nil] at r4
    rw [Cap.body4 _ ef, hfr, eo, ep, el, es, ← r1, ← r2, ← r3, ← r4]
    simp only [List.append_assoc]
end Go.Proofs.Ytpedbmnifjhaiaa
