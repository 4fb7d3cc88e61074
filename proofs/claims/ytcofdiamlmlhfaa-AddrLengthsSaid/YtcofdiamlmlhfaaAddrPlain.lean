/-
  Plain facts for layer 12: an Add and a Remove, their bodies, what a text is as one, and why it is none; what was laid is read. Nothing of the program is here.
-/
import Derived.Test.YtcofdiamlmlhfaaNumBytes
namespace Go.Proofs.Ytcofdiamlmlhfaa
set_option linter.unusedVariables false

theorem none_and (a : ByteArray) : (⟨#[]⟩ : ByteArray) ++ a = a := by apply ByteArray.ext; rw [ByteArray.data_append]; simp
theorem be_len (m n : Nat) : (txt (be m n)).size = m := by rw [txt_size, be_length]
theorem byte_of (n : Nat) (h : n < 256) : (UInt8.ofNat n).toNat = n := by rw [UInt8.toNat_ofNat']; exact Nat.mod_eq_of_lt h
theorem empty_of (s : ByteArray) (h : s.size = 0) : s = ⟨#[]⟩ := ByteArray.ext (Array.eq_empty_of_size_eq_zero h)

/-- How many bytes a Mac has, and a Port. -/
def macOf (e : Bool) : Nat := if e then 0 else 8
def portOf (h : Bool) : Nat := if h then 2 else 0
/-- A first byte, by Echo. -/
def fst (e : Bool) : Nat := if e then 49 else 48
theorem fst_le (e : Bool) : fst e ≤ 255 := by cases e <;> decide
/-- An option that announces. -/
structure Ad where
  echo : Bool
  id : Int
  ip : ByteArray
  hp : Bool
  port : Int
  mac : ByteArray
namespace Ad
theorem ext_ {x y : Ad} (h0 : x.echo = y.echo) (h1 : x.id = y.id) (h2 : x.ip = y.ip) (h3 : x.hp = y.hp) (h4 : x.port = y.port) (h5 : x.mac = y.mac) : x = y := by
  cases x; cases y; simp_all
/-- Its numbers fit their types, its texts are no longer than the model's. -/
structure Ok (x : Ad) : Prop where
  id : -9223372036854775808 ≤ x.id ∧ x.id ≤ 9223372036854775807
  ip : x.ip.size ≤ 9223372036854775000
  port : -9223372036854775808 ≤ x.port ∧ x.port ≤ 9223372036854775807
  mac : x.mac.size ≤ 9223372036854775000
/-- It may be. -/
abbrev May (x : Ad) : Prop := (0 ≤ x.id ∧ x.id ≤ 255) ∧ (x.ip.size = 4 ∨ x.ip.size = 16) ∧ (0 ≤ x.port ∧ x.port ≤ 65535) ∧ (x.hp = true ∨ x.port = 0) ∧ x.mac.size = macOf x.echo
def ports (x : Ad) : List UInt8 := if x.hp then be 2 x.port.toNat else []
theorem ports_length (x : Ad) : x.ports.length = portOf x.hp := by unfold ports portOf; split <;> simp [be_length]
/-- The bytes behind the first two. -/
def rest (x : Ad) : List UInt8 := x.ip.data.toList ++ x.ports ++ x.mac.data.toList
def body (x : Ad) : List UInt8 := UInt8.ofNat (fst x.echo) :: UInt8.ofNat x.id.toNat :: x.rest
def size (x : Ad) : Nat := 2 + x.ip.size + portOf x.hp + x.mac.size
theorem rest_size (x : Ad) : x.rest.length + 2 = x.size := by
  unfold rest size
  simp only [List.length_append, len_data, ports_length]; omega
theorem body_size (x : Ad) : x.body.length = x.size := by rw [← rest_size]; rfl
def zero : Ad := ⟨false, 0, ⟨#[]⟩, false, 0, ⟨#[]⟩⟩
theorem zero_ok : zero.Ok := ⟨by decide, by decide, by decide, by decide⟩
/-- What is answered where it is laid: its body, or why there is none. -/
def enc (x : Ad) : ByteArray × Int := if x.May then (txt x.body, 0) else (⟨#[]⟩, 2)
theorem enc_t (x : Ad) (h : x.May) : x.enc = (txt x.body, 0) := if_pos h
theorem enc_f (x : Ad) (h : ¬ x.May) : x.enc = (⟨#[]⟩, 2) := if_neg h
theorem size_le (x : Ad) (h : x.May) : x.size ≤ 28 := by
  obtain ⟨_, h2, _, _, h5⟩ := h
  unfold size; rw [h5]
  have : portOf x.hp ≤ 2 := by cases x.hp <;> decide
  have : macOf x.echo ≤ 8 := by cases x.echo <;> decide
  omega
end Ad

/-! ### What a text is -/
/-- How long the Ip is, and whether there is a Port, by the text's length. -/
def shape (n : Nat) (e : Bool) : Option (Nat × Bool) := if n = 6 + macOf e then some (4, false) else if n = 8 + macOf e then some (4, true) else if n = 18 + macOf e then some (16, false) else if n = 20 + macOf e then some (16, true) else none
theorem shape_of (k : Nat) (h : Bool) (e : Bool) (hk : k = 4 ∨ k = 16) : shape (2 + k + portOf h + macOf e) e = some (k, h) := by
  rcases hk with rfl | rfl <;> cases h <;> cases e <;> rfl
theorem shape_cases (n : Nat) (e : Bool) (k : Nat) (h : Bool) (hs : shape n e = some (k, h)) : (k = 4 ∨ k = 16) ∧ n = 2 + k + portOf h + macOf e := by
  unfold shape at hs
  split at hs
  · cases hs; exact ⟨.inl rfl, by simp [portOf]; omega⟩
  split at hs
  · cases hs; exact ⟨.inl rfl, by simp [portOf]; omega⟩
  split at hs
  · cases hs; exact ⟨.inr rfl, by simp [portOf]; omega⟩
  split at hs
  · cases hs; exact ⟨.inr rfl, by simp [portOf]; omega⟩
  · cases hs
/-- What the bytes are, the first two told by their numbers, the others' parts by their lengths. -/
def gotA (e : Bool) (d : Nat) (r : List UInt8) (k : Nat) (h : Bool) : Ad := ⟨e, (d : Int), txt (r.take k), h, (num (txt r) k (portOf h) : Int), txt (r.drop (k + portOf h))⟩
abbrev after2 (s : ByteArray) : List UInt8 := s.data.toList.drop 2
def odd (c : Nat) : Bool := decide (c % 2 = 1)
/-- What a text is, as an Add, or why it is none. -/
def decA (s : ByteArray) : Ad × Int := if s.size = 0 then (.zero, 4) else if byteAt s 0 / 16 ≠ 3 then (.zero, 7) else match shape s.size (odd (byteAt s 0)) with
  | none => (.zero, 5)
  | some (k, h) => (gotA (odd (byteAt s 0)) (byteAt s 1) (after2 s) k h, 0)
theorem decA_short (s : ByteArray) (h : s.size = 0) : decA s = (.zero, 4) := if_pos h
theorem decA_kind (s : ByteArray) (h : s.size ≠ 0) (k : byteAt s 0 / 16 ≠ 3) : decA s = (.zero, 7) := by unfold decA; rw [if_neg h, if_pos k]
theorem decA_form (s : ByteArray) (h : s.size ≠ 0) (k : byteAt s 0 / 16 = 3) (g : shape s.size (odd (byteAt s 0)) = none) : decA s = (.zero, 5) := by unfold decA; rw [if_neg h, if_neg (fun n => n k), g]
theorem decA_some (s : ByteArray) (m : Nat) (p : Bool) (h : s.size ≠ 0) (k : byteAt s 0 / 16 = 3) (g : shape s.size (odd (byteAt s 0)) = some (m, p)) : decA s = (gotA (odd (byteAt s 0)) (byteAt s 1) (after2 s) m p, 0) := by unfold decA; rw [if_neg h, if_neg (fun n => n k), g]

/-! ### A Remove -/
def encR (ids : ByteArray) : ByteArray × Int := if 1 ≤ ids.size ∧ ids.size ≤ 37 then (txt (64 :: ids.data.toList), 0) else (⟨#[]⟩, 2)
theorem encR_t (ids : ByteArray) (h : 1 ≤ ids.size ∧ ids.size ≤ 37) : encR ids = (txt (64 :: ids.data.toList), 0) := if_pos h
theorem encR_f (ids : ByteArray) (h : ¬ (1 ≤ ids.size ∧ ids.size ≤ 37)) : encR ids = (⟨#[]⟩, 2) := if_neg h
abbrev after1 (s : ByteArray) : ByteArray := txt (s.data.toList.drop 1)
def decR (s : ByteArray) : ByteArray × Int := if s.size = 0 then (⟨#[]⟩, 4) else if byteAt s 0 / 16 ≠ 4 then (⟨#[]⟩, 7) else if 2 ≤ s.size ∧ s.size ≤ 38 then (after1 s, 0) else (⟨#[]⟩, 5)
theorem decR_short (s : ByteArray) (h : s.size = 0) : decR s = (⟨#[]⟩, 4) := if_pos h
theorem decR_kind (s : ByteArray) (h : s.size ≠ 0) (k : byteAt s 0 / 16 ≠ 4) : decR s = (⟨#[]⟩, 7) := by unfold decR; rw [if_neg h, if_pos k]
theorem decR_t (s : ByteArray) (k : byteAt s 0 / 16 = 4) (g : 2 ≤ s.size ∧ s.size ≤ 38) : decR s = (after1 s, 0) := by unfold decR; rw [if_neg (by omega), if_neg (fun n => n k), if_pos g]
theorem decR_f (s : ByteArray) (h : s.size ≠ 0) (k : byteAt s 0 / 16 = 4) (g : ¬ (2 ≤ s.size ∧ s.size ≤ 38)) : decR s = (⟨#[]⟩, 5) := by unfold decR; rw [if_neg h, if_neg (fun n => n k), if_neg g]
theorem decR_le (s : ByteArray) : (decR s).1.size ≤ 37 := by
  unfold decR
  split
  · exact Nat.zero_le _
  split
  · exact Nat.zero_le _
  split
  · rename_i h; show (after1 s).size ≤ 37; rw [txt_size, List.length_drop, len_data]; omega
  · exact Nat.zero_le _
theorem one_size (u : UInt8) (l : List UInt8) : (txt (u :: l)).size = l.length + 1 := by rw [txt_size]; rfl
theorem one_0 (u : UInt8) (l : List UInt8) : byteAt (txt (u :: l)) 0 = u.toNat := rfl
theorem one_after (u : UInt8) (l : List UInt8) : after1 (txt (u :: l)) = txt l := rfl
/-- What is laid as a Remove is read; the first byte may be another one, where it is passed over. -/
theorem decR_first (ids : ByteArray) (u : UInt8) (hu : u.toNat / 16 = 4) (h : 1 ≤ ids.size ∧ ids.size ≤ 37) : decR (txt (u :: ids.data.toList)) = (ids, 0) := by
  have := decR_t (txt (u :: ids.data.toList)) hu (by rw [one_size, len_data]; omega)
  rw [this, one_after]; rfl

/-! ### A text that begins with two bytes -/
theorem two_size (u v : UInt8) (r : List UInt8) : (txt (u :: v :: r)).size = r.length + 2 := by rw [txt_size]; rfl
theorem two_0 (u v : UInt8) (r : List UInt8) : byteAt (txt (u :: v :: r)) 0 = u.toNat := rfl
theorem two_1 (u v : UInt8) (r : List UInt8) : byteAt (txt (u :: v :: r)) 1 = v.toNat := rfl
theorem two_after (u v : UInt8) (r : List UInt8) : after2 (txt (u :: v :: r)) = r := rfl
theorem two_dec (u v : UInt8) (r : List UInt8) (h : u.toNat / 16 = 3) (m : Nat) (p : Bool) (g : shape (r.length + 2) (odd u.toNat) = some (m, p)) : decA (txt (u :: v :: r)) = (gotA (odd u.toNat) v.toNat r m p, 0) :=
  decA_some _ m p (by rw [two_size]; omega) (by rw [two_0]; exact h) (by rw [two_size, two_0]; exact g)
theorem two_of (s : ByteArray) (h : 2 ≤ s.size) : ∃ u v r, s = txt (u :: v :: r) ∧ r.length + 2 = s.size := by
  have hl : s.data.toList.length = s.size := len_data s
  match e : s.data.toList, hl with
  | u :: v :: r, hl => exact ⟨u, v, r, by rw [← e]; rfl, hl⟩
  | [], hl => simp at hl; omega
  | [u], hl => simp at hl; omega

/-! ### What is laid is read -/
theorem fst_byte (e : Bool) : (UInt8.ofNat (fst e)).toNat = fst e := by cases e <;> rfl
theorem fst_kind (e : Bool) : fst e / 16 = 3 := by cases e <;> rfl
theorem fst_odd (e : Bool) : odd (fst e) = e := by cases e <;> rfl
theorem got_rest (x : Ad) (hm : x.May) (d : Nat) (hd : (d : Int) = x.id) : gotA x.echo d x.rest x.ip.size x.hp = x := by
  obtain ⟨_, _, hp, hz, _⟩ := hm
  have hl : x.ip.data.toList.length = x.ip.size := len_data _
  refine Ad.ext_ rfl hd ?_ rfl ?_ ?_
  · show txt (x.rest.take x.ip.size) = x.ip
    unfold Ad.rest
    rw [List.append_assoc, List.take_append_of_le_length (by omega), List.take_of_length_le (by omega)]; rfl
  · show (num (txt x.rest) x.ip.size (portOf x.hp) : Int) = x.port
    cases e : x.hp
    · have h0 : x.port = 0 := by rcases hz with h | h
                                 · rw [e] at h; cases h
                                 · exact h
      rw [h0]; rfl
    · have hr : x.rest = x.ip.data.toList ++ be 2 x.port.toNat ++ x.mac.data.toList := by unfold Ad.rest Ad.ports; rw [e]; rfl
      rw [hr, show portOf true = 2 from rfl, num_mid _ _ _ _ _ hl]
      omega
  · show txt (x.rest.drop (x.ip.size + portOf x.hp)) = x.mac
    unfold Ad.rest
    rw [List.drop_append_of_le_length (by rw [List.length_append, hl, x.ports_length]; omega), List.drop_of_length_le (by rw [List.length_append, hl, x.ports_length]; omega)]; rfl
/-- The first two bytes may be others, where they are passed over. -/
theorem dec_first (x : Ad) (hm : x.May) (u v : UInt8) (hu : u.toNat / 16 = 3) (ho : odd u.toNat = x.echo) (hv : (v.toNat : Int) = x.id) : decA (txt (u :: v :: x.rest)) = (x, 0) := by
  have hs : shape (x.rest.length + 2) (odd u.toNat) = some (x.ip.size, x.hp) := by
    rw [x.rest_size, ho, ← shape_of x.ip.size x.hp x.echo hm.2.1, ← hm.2.2.2.2]; rfl
  rw [two_dec u v x.rest hu _ _ hs, ho, got_rest x hm _ hv]
theorem dec_body (x : Ad) (hm : x.May) : decA (txt x.body) = (x, 0) := by
  have := hm.1
  exact dec_first x hm _ _ (by rw [fst_byte]; exact fst_kind _) (by rw [fst_byte]; exact fst_odd _) (by rw [byte_of _ (by omega)]; omega)
/-- Two options have one body just if they are alike. -/
theorem body_inj (x y : Ad) (hm : x.May) (hn : y.May) (h : txt x.body = txt y.body) : x = y := by
  have a := dec_body x hm
  rw [h, dec_body y hn] at a
  exact (congrArg Prod.fst a).symm
theorem gotA_ok (e : Bool) (d : Nat) (hd : d < 256) (r : List UInt8) (hr : r.length ≤ 9223372036854775000) (k : Nat) (h : Bool) : (gotA e d r k h).Ok := by
  have hn : num (txt r) k (portOf h) ≤ 65535 := by
    cases h
    · exact Nat.zero_le _
    · have := num_lt (txt r) k 2; show num (txt r) k 2 ≤ 65535; omega
  exact ⟨by show _ ≤ (d : Int) ∧ (d : Int) ≤ _; omega, by show (txt (r.take k)).size ≤ _; rw [txt_size, List.length_take]; omega, by show _ ≤ (num _ _ _ : Int) ∧ (num _ _ _ : Int) ≤ _; omega, by show (txt (r.drop _)).size ≤ _; rw [txt_size, List.length_drop]; omega⟩
theorem decA_ok (s : ByteArray) : (decA s).1.Ok := by
  unfold decA
  split
  · exact Ad.zero_ok
  split
  · exact Ad.zero_ok
  cases e : shape s.size (odd (byteAt s 0)) with
  | none => exact Ad.zero_ok
  | some y =>
    obtain ⟨k, h⟩ := y
    obtain ⟨hk, hn⟩ := shape_cases _ _ _ _ e
    have : portOf h ≤ 2 := by cases h <;> decide
    have : macOf (odd (byteAt s 0)) ≤ 8 := by cases odd (byteAt s 0) <;> decide
    exact gotA_ok _ _ (byteAt_lt _ _) _ (by rw [List.length_drop, len_data]; omega) k h
theorem kind_of_fst (x : Ad) : byteAt (txt x.body) 0 / 16 = 3 := by
  show (UInt8.ofNat (fst x.echo)).toNat / 16 = 3
  rw [fst_byte]; exact fst_kind _
end Go.Proofs.Ytcofdiamlmlhfaa
