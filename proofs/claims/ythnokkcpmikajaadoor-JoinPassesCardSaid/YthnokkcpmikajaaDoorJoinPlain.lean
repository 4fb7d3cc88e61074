/-
  Plain facts for layer 10: an option of a path that joins, its body, what a text is as one, and why it is none; what was laid is read, what was read is laid again. Nothing of the program is here.
-/
import Derived.Test.YthnokkcpmikajaaDoorNumBytes
namespace Go.Proofs.YthnokkcpmikajaaDoor
set_option linter.unusedVariables false

/-- An option. -/
structure Jn where
  form : Int
  backup : Bool
  id : Int
  token : Nat
  nonce : Nat
  mac : ByteArray
namespace Jn
theorem ext_ {x y : Jn} (h0 : x.form = y.form) (h1 : x.backup = y.backup) (h2 : x.id = y.id) (h3 : x.token = y.token) (h4 : x.nonce = y.nonce) (h5 : x.mac = y.mac) : x = y := by
  cases x; cases y; simp_all
/-- Its numbers fit their types. -/
structure Ok (x : Jn) : Prop where
  form : -9223372036854775808 ≤ x.form ∧ x.form ≤ 9223372036854775807
  id : -9223372036854775808 ≤ x.id ∧ x.id ≤ 9223372036854775807
  token : x.token ≤ 4294967295
  nonce : x.nonce ≤ 4294967295
  mac : x.mac.size ≤ 9223372036854775000
def macSize (f : Int) : Nat := if f = 1 then 8 else if f = 2 then 20 else 0
def bodySize (f : Int) : Nat := if f = 0 then 10 else if f = 1 then 14 else if f = 2 then 22 else 0
/-- It may be. -/
abbrev May (x : Jn) : Prop := (0 ≤ x.form ∧ x.form < 3) ∧ (0 ≤ x.id ∧ x.id ≤ 255) ∧ x.mac.size = macSize x.form ∧ (x.form = 1 → x.token = 0) ∧ (x.form = 2 → x.backup = false ∧ x.id = 0 ∧ x.token = 0 ∧ x.nonce = 0)
def first (b : Bool) : Nat := if b then 17 else 16
theorem first_le (b : Bool) : first b ≤ 255 := by cases b <;> decide
/-- The bytes behind the first two. -/
def rest (x : Jn) : List UInt8 := if x.form = 0 then be 4 x.token ++ be 4 x.nonce else if x.form = 1 then x.mac.data.toList ++ be 4 x.nonce else x.mac.data.toList
def body (x : Jn) : List UInt8 := UInt8.ofNat (first x.backup) :: UInt8.ofNat x.id.toNat :: x.rest
def zero : Jn := ⟨0, false, 0, 0, 0, ⟨#[]⟩⟩
theorem zero_ok : zero.Ok := ⟨by decide, by decide, by decide, by decide, by decide⟩
/-- What is answered where it is laid: its body, or why there is none. -/
def enc (x : Jn) : ByteArray × Int := if x.May then (txt x.body, 0) else (⟨#[]⟩, 2)
theorem enc_t (x : Jn) (h : x.May) : x.enc = (txt x.body, 0) := if_pos h
theorem enc_f (x : Jn) (h : ¬ x.May) : x.enc = (⟨#[]⟩, 2) := if_neg h
theorem forms {x : Jn} (h : x.May) : x.form = 0 ∨ x.form = 1 ∨ x.form = 2 := by have := h.1; omega
theorem rest_size (x : Jn) (h : x.May) : x.rest.length + 2 = bodySize x.form := by
  have hm := h.2.2.1
  have hl : x.mac.data.toList.length = x.mac.size := len_data _
  rcases forms h with e | e | e <;> rw [e] at hm ⊢ <;> simp only [rest, e, bodySize, macSize] at hm ⊢ <;> simp [be_length] <;> simp at hm hl <;> omega
theorem body_size (x : Jn) (h : x.May) : x.body.length = bodySize x.form := by rw [← rest_size x h]; rfl
theorem size_cases (f : Int) (h : f = 0 ∨ f = 1 ∨ f = 2) : (f = 0 ∧ bodySize f = 10) ∨ (f = 1 ∧ bodySize f = 14) ∨ (f = 2 ∧ bodySize f = 22) := by
  rcases h with rfl | rfl | rfl
  · exact .inl ⟨rfl, rfl⟩
  · exact .inr (.inl ⟨rfl, rfl⟩)
  · exact .inr (.inr ⟨rfl, rfl⟩)
end Jn

/-- What a text's bytes are, by how many they are: the first, the second, the others. -/
def got0 (c d : Nat) (r : List UInt8) : Jn := ⟨0, decide (c % 2 = 1), (d : Int), num (txt r) 0 4, num (txt r) 4 4, ⟨#[]⟩⟩
def got1 (c d : Nat) (r : List UInt8) : Jn := ⟨1, decide (c % 2 = 1), (d : Int), 0, num (txt r) 8 4, txt (r.take 8)⟩
def got2 (r : List UInt8) : Jn := ⟨2, false, 0, 0, 0, txt r⟩
def got (n c d : Nat) (r : List UInt8) : Option Jn := if n = 10 then some (got0 c d r) else if n = 14 then some (got1 c d r) else if n = 22 then some (got2 r) else none
abbrev after2 (s : ByteArray) : List UInt8 := s.data.toList.drop 2
def gotOf (s : ByteArray) : Option Jn := got s.size (byteAt s 0) (byteAt s 1) (after2 s)
/-- What a text is, as an option, or why it is none. -/
def decJ (s : ByteArray) : Jn × Int := if s.size = 0 then (.zero, 4) else if byteAt s 0 / 16 ≠ 1 then (.zero, 7) else match gotOf s with
  | none => (.zero, 5)
  | some x => (x, 0)
theorem decJ_short (s : ByteArray) (h : s.size = 0) : decJ s = (.zero, 4) := if_pos h
theorem decJ_kind (s : ByteArray) (h : s.size ≠ 0) (k : byteAt s 0 / 16 ≠ 1) : decJ s = (.zero, 7) := by unfold decJ; rw [if_neg h, if_pos k]
theorem decJ_form (s : ByteArray) (h : s.size ≠ 0) (k : byteAt s 0 / 16 = 1) (g : gotOf s = none) : decJ s = (.zero, 5) := by unfold decJ; rw [if_neg h, if_neg (fun n => n k), g]
theorem decJ_some (s : ByteArray) (x : Jn) (h : s.size ≠ 0) (k : byteAt s 0 / 16 = 1) (g : gotOf s = some x) : decJ s = (x, 0) := by unfold decJ; rw [if_neg h, if_neg (fun n => n k), g]
theorem got_10 (c d : Nat) (r : List UInt8) : got 10 c d r = some (got0 c d r) := rfl
theorem got_14 (c d : Nat) (r : List UInt8) : got 14 c d r = some (got1 c d r) := rfl
theorem got_22 (c d : Nat) (r : List UInt8) : got 22 c d r = some (got2 r) := rfl
theorem got_none (n c d : Nat) (r : List UInt8) (h : n ≠ 10) (h' : n ≠ 14) (h'' : n ≠ 22) : got n c d r = none := by unfold got; rw [if_neg h, if_neg h', if_neg h'']

/-! ### A text that begins with two bytes -/
theorem two_size (u v : UInt8) (r : List UInt8) : (txt (u :: v :: r)).size = r.length + 2 := by rw [txt_size]; rfl
theorem two_0 (u v : UInt8) (r : List UInt8) : byteAt (txt (u :: v :: r)) 0 = u.toNat := rfl
theorem two_1 (u v : UInt8) (r : List UInt8) : byteAt (txt (u :: v :: r)) 1 = v.toNat := rfl
theorem two_after (u v : UInt8) (r : List UInt8) : after2 (txt (u :: v :: r)) = r := rfl
theorem two_dec (u v : UInt8) (r : List UInt8) (h : u.toNat / 16 = 1) (x : Jn) (hg : got (r.length + 2) u.toNat v.toNat r = some x) : decJ (txt (u :: v :: r)) = (x, 0) :=
  decJ_some _ x (by rw [two_size]; omega) (by rw [two_0]; exact h) (by unfold gotOf; rw [two_size, two_0, two_1, two_after]; exact hg)
/-- Every text of two bytes or more begins so. -/
theorem two_of (s : ByteArray) (h : 2 ≤ s.size) : ∃ u v r, s = txt (u :: v :: r) ∧ r.length + 2 = s.size := by
  have hl : s.data.toList.length = s.size := len_data s
  match e : s.data.toList, hl with
  | u :: v :: r, hl => exact ⟨u, v, r, by rw [← e]; rfl, hl⟩
  | [], hl => simp at hl; omega
  | [u], hl => simp at hl; omega

/-! ### What is laid is read -/
theorem ofNat_first (b : Bool) : (UInt8.ofNat (Jn.first b)).toNat = Jn.first b := by cases b <;> rfl
theorem byte_of (n : Nat) (h : n < 256) : (UInt8.ofNat n).toNat = n := by rw [UInt8.toNat_ofNat']; exact Nat.mod_eq_of_lt h
/-- What is read of the bytes behind the first two, where an option was laid; the first two may be others, where they are passed over. -/
theorem got_rest (x : Jn) (hx : x.Ok) (hm : x.May) (c d : Nat) (h : x.form ≠ 2 → (decide (c % 2 = 1) = x.backup ∧ (d : Int) = x.id)) : got (x.rest.length + 2) c d x.rest = some x := by
  rw [x.rest_size hm]
  have ht := hx.token
  have hn := hx.nonce
  have hf := x.forms hm
  obtain ⟨_, _, hz, h1, h2⟩ := hm
  have fin : ∀ {a b : Jn}, a = b → some a = some b := fun e => by rw [e]
  rcases hf with e | e | e
  · obtain ⟨hc, hd⟩ := h (by omega)
    rw [e, show Jn.bodySize 0 = 10 from rfl, got_10]
    have hr : x.rest = be 4 x.token ++ be 4 x.nonce := by unfold Jn.rest; rw [if_pos e]
    have n1 := num_mid [] (be 4 x.nonce) 0 4 x.token rfl
    have n2 := num_mid (be 4 x.token) [] 4 4 x.nonce (be_length _ _)
    rw [List.nil_append] at n1
    rw [List.append_nil] at n2
    refine fin (Jn.ext_ e.symm hc hd ?_ ?_ ?_)
    · rw [hr]; show num _ 0 4 = _; rw [n1]; omega
    · rw [hr]; show num _ 4 4 = _; rw [n2]; omega
    · rw [e] at hz
      have : x.mac.size = 0 := hz
      exact (ByteArray.ext (Array.eq_empty_of_size_eq_zero this)).symm
  · obtain ⟨hc, hd⟩ := h (by omega)
    rw [e] at hz
    have hl : x.mac.data.toList.length = 8 := by rw [len_data]; exact hz
    rw [e, show Jn.bodySize 1 = 14 from rfl, got_14]
    have hr : x.rest = x.mac.data.toList ++ be 4 x.nonce := by unfold Jn.rest; rw [if_neg (by omega), if_pos e]
    have n2 := num_mid x.mac.data.toList [] 8 4 x.nonce hl
    rw [List.append_nil] at n2
    refine fin (Jn.ext_ e.symm hc hd (h1 e).symm ?_ ?_)
    · rw [hr]; show num _ 8 4 = _; rw [n2]; omega
    · rw [hr]
      show txt ((x.mac.data.toList ++ be 4 x.nonce).take 8) = _
      rw [List.take_append_of_le_length (by omega), List.take_of_length_le (by omega)]; rfl
  · obtain ⟨a, b, cc, d'⟩ := h2 e
    rw [e, show Jn.bodySize 2 = 22 from rfl, got_22]
    have hr : x.rest = x.mac.data.toList := by unfold Jn.rest; rw [if_neg (by omega), if_neg (by omega)]
    refine fin (Jn.ext_ e.symm a.symm b.symm cc.symm d'.symm ?_)
    rw [hr]; rfl
theorem dec_first (x : Jn) (hx : x.Ok) (hm : x.May) (u v : UInt8) (hu : u.toNat / 16 = 1) (h : x.form ≠ 2 → (decide (u.toNat % 2 = 1) = x.backup ∧ (v.toNat : Int) = x.id)) : decJ (txt (u :: v :: x.rest)) = (x, 0) :=
  two_dec u v x.rest hu x (got_rest x hx hm _ _ h)
theorem dec_bodyJ (x : Jn) (hx : x.Ok) (hm : x.May) : decJ (txt x.body) = (x, 0) := by
  refine dec_first x hx hm _ _ (by rw [ofNat_first]; cases x.backup <;> rfl) (fun _ => ⟨?_, ?_⟩)
  · rw [ofNat_first]; cases x.backup <;> rfl
  · have := hm.2.1; rw [byte_of _ (by omega)]; omega
/-- Two options have one body just if they are alike. -/
theorem body_inj (x y : Jn) (hx : x.Ok) (hm : x.May) (hy : y.Ok) (hn : y.May) (h : txt x.body = txt y.body) : x = y := by
  have a := dec_bodyJ x hx hm
  rw [h, dec_bodyJ y hy hn] at a
  exact (congrArg Prod.fst a).symm

/-! ### What is read may be, and is laid again -/
theorem got_spec (c d : Nat) (hd : d < 256) (r : List UInt8) (x : Jn) (h : got (r.length + 2) c d r = some x) :
    x.Ok ∧ x.May ∧ x.rest = r ∧ (x.form ≠ 2 → decide (c % 2 = 1) = x.backup ∧ (d : Int) = x.id) ∧ x.form = (if r.length = 8 then 0 else if r.length = 12 then 1 else 2) := by
  unfold got at h
  have sz : ∀ k : Nat, r.length = k → (txt r).size = k := fun k e => by rw [txt_size]; exact e
  have tl : (txt r).data.toList = r := rfl
  split at h
  · rename_i e
    cases h
    have hl : r.length = 8 := by omega
    have b1 := num_lt (txt r) 0 4
    have b2 := num_lt (txt r) 4 4
    have e1 := be_num (txt r) 0 4 (by rw [sz 8 hl]; omega)
    have e2 := be_num (txt r) 4 4 (by rw [sz 8 hl]; omega)
    rw [tl, List.drop_zero] at e1
    rw [tl] at e2
    refine ⟨⟨by simp [got0], by show _ ≤ (d : Int) ∧ (d : Int) ≤ _; omega, by show num _ 0 4 ≤ _; omega, by show num _ 4 4 ≤ _; omega, by show (0 : Nat) ≤ _; omega⟩, ⟨by simp [got0], by show 0 ≤ (d : Int) ∧ (d : Int) ≤ 255; omega, rfl, fun q => absurd (show (0 : Int) = 1 from q) (by decide), fun q => absurd (show (0 : Int) = 2 from q) (by decide)⟩, ?_, fun _ => ⟨rfl, rfl⟩, by rw [if_pos hl]; rfl⟩
    show be 4 (num (txt r) 0 4) ++ be 4 (num (txt r) 4 4) = r
    rw [e1, e2, List.take_of_length_le (l := r.drop 4) (by rw [List.length_drop]; omega), List.take_append_drop]
  · split at h
    · rename_i e0 e
      cases h
      have hl : r.length = 12 := by omega
      have b2 := num_lt (txt r) 8 4
      have e2 := be_num (txt r) 8 4 (by rw [sz 12 hl]; omega)
      rw [tl] at e2
      refine ⟨⟨by simp [got1], by show _ ≤ (d : Int) ∧ (d : Int) ≤ _; omega, by show (0 : Nat) ≤ _; omega, by show num _ 8 4 ≤ _; omega, by show (txt (r.take 8)).size ≤ _; rw [txt_size, List.length_take]; omega⟩, ⟨by simp [got1], by show 0 ≤ (d : Int) ∧ (d : Int) ≤ 255; omega, by show (txt (r.take 8)).size = 8; rw [txt_size, List.length_take]; omega, fun _ => rfl, fun q => absurd (show (1 : Int) = 2 from q) (by decide)⟩, ?_, fun _ => ⟨rfl, rfl⟩, by rw [if_neg (by omega), if_pos hl]; rfl⟩
      show r.take 8 ++ be 4 (num (txt r) 8 4) = r
      rw [e2, List.take_of_length_le (l := r.drop 8) (by rw [List.length_drop]; omega), List.take_append_drop]
    · split at h
      · rename_i e0 e1 e
        cases h
        have hl : r.length = 20 := by omega
        exact ⟨⟨by simp [got2], by simp [got2], by show (0 : Nat) ≤ _; omega, by show (0 : Nat) ≤ _; omega, by show (txt r).size ≤ _; rw [txt_size]; omega⟩, ⟨by simp [got2], by simp [got2], by show (txt r).size = 20; rw [txt_size]; exact hl, fun q => absurd (show (2 : Int) = 1 from q) (by decide), fun _ => ⟨rfl, rfl, rfl, rfl⟩⟩, rfl, fun q => absurd rfl q, by rw [if_neg (by omega), if_neg (by omega)]; rfl⟩
      · cases h
theorem got_size (n c d : Nat) (r : List UInt8) (x : Jn) (h : got n c d r = some x) : n = Jn.bodySize x.form := by
  unfold got at h
  split at h
  · cases h; assumption
  · split at h
    · cases h; assumption
    · split at h
      · cases h; assumption
      · cases h
theorem decJ_ok (s : ByteArray) : (decJ s).1.Ok := by
  unfold decJ
  split
  · exact Jn.zero_ok
  split
  · exact Jn.zero_ok
  cases e : gotOf s with
  | none => exact Jn.zero_ok
  | some x =>
    unfold gotOf at e
    have h2 : 2 ≤ s.size := by
      have e' := e
      unfold got at e'
      split at e'
      · omega
      split at e'
      · omega
      split at e'
      · omega
      · cases e'
    obtain ⟨u, v, r, rfl, hr⟩ := two_of s h2
    rw [two_0, two_1, two_after, ← hr] at e
    show x.Ok
    exact (got_spec _ _ v.toNat_lt r x e).1
/-- Numbers that stand in a text, by the bytes behind its first two. -/
theorem num_after (s : ByteArray) (k m : Nat) : num (txt (after2 s)) k m = num s (2 + k) m := by
  apply num_congr
  intro j _
  rw [txt_list, List.getD_eq_getElem?_getD, List.getD_eq_getElem?_getD, List.getElem?_drop, Nat.add_assoc 2 k j]
theorem cut_after (s : ByteArray) (k : Nat) : s.extract 2 (2 + k) = txt ((after2 s).take k) := by
  apply ByteArray.ext
  apply Array.toList_inj.1
  rw [ByteArray.data_extract, Array.toList_extract, List.extract_eq_take_drop]
  show _ = (s.data.toList.drop 2).take k
  congr 1; omega
end Go.Proofs.YthnokkcpmikajaaDoor
