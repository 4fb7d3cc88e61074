/-
  Plain facts for layer 5: the bytes of a number, a segment and its bytes, what bytes are as a segment. Nothing of the program is here.
-/
import Derived.Test.YthdcjcdgddejbaaDoorSumRefs
namespace Go.Proofs.YthdcjcdgddejbaaDoor
open Go.RowKit
set_option linter.unusedVariables false

theorem txt_app (a b : List UInt8) : txt a ++ txt b = txt (a ++ b) := by apply ByteArray.ext; simp [txt, ByteArray.data_append]
theorem len_data (s : ByteArray) : s.data.toList.length = s.size := by simp
theorem txt_inj {a b : List UInt8} (h : txt a = txt b) : a = b := by
  have := congrArg (fun s : ByteArray => s.data.toList) h
  simpa using this
theorem txt_ext {a b : ByteArray} (h : a.data.toList = b.data.toList) : a = b := by
  apply ByteArray.ext; exact Array.toList_inj.1 h

/-- The last m bytes of n, the most significant one first. -/
def be : Nat → Nat → List UInt8
  | 0, _ => []
  | m + 1, n => UInt8.ofNat (n / 256 ^ m) :: be m n
theorem be_length : ∀ m n, (be m n).length = m
  | 0, _ => rfl
  | m + 1, n => by rw [be, List.length_cons, be_length m n]
/-- The number that bytes are. -/
def nm (l : List UInt8) : Nat := l.foldl (fun n b => n * 256 + b.toNat) 0
theorem nm_nil : nm [] = 0 := rfl
theorem nm_snoc (l : List UInt8) (b : UInt8) : nm (l ++ [b]) = nm l * 256 + b.toNat := by simp [nm]
theorem nm_one (b : UInt8) : nm [b] = b.toNat := by simp [nm]
theorem nm_two (a b : UInt8) : nm [a, b] = a.toNat * 256 + b.toNat := by simp [nm]
theorem nm_lt (l : List UInt8) : nm l < 256 ^ l.length := by
  suffices h : ∀ (k : Nat) (l : List UInt8), l.length = k → nm l < 256 ^ k from h _ l rfl
  intro k
  induction k with
  | zero => intro l h; rw [List.length_eq_zero_iff.1 h]; decide
  | succ k ih =>
    intro l h
    have hne : l ≠ [] := fun e => by simp [e] at h
    obtain ⟨r, b, rfl⟩ : ∃ r b, l = r ++ [b] := ⟨l.dropLast, l.getLast hne, (List.dropLast_concat_getLast hne).symm⟩
    have hr := ih r (by simpa using h)
    have hb := b.toNat_lt
    rw [nm_snoc, Nat.pow_succ]
    omega
theorem be_snoc : ∀ m n, be (m + 1) n = be m (n / 256) ++ [UInt8.ofNat n]
  | 0, n => by simp [be]
  | m + 1, n => by
    rw [be, be_snoc m n]
    show _ = UInt8.ofNat (n / 256 / 256 ^ m) :: be m (n / 256) ++ [UInt8.ofNat n]
    rw [Nat.div_div_eq_div_mul, Nat.pow_succ, Nat.mul_comm]; rfl
theorem nm_be : ∀ m n, nm (be m n) = n % 256 ^ m
  | 0, n => by simp [be, nm]; omega
  | m + 1, n => by
    have e : (UInt8.ofNat n).toNat = n % 256 := by rw [UInt8.toNat_ofNat']
    rw [be_snoc, nm_snoc, nm_be m, e, Nat.pow_succ, Nat.mul_comm (256 ^ m) 256, Nat.mod_mul]
    omega
theorem be_nm (l : List UInt8) : be l.length (nm l) = l := by
  suffices h : ∀ (k : Nat) (l : List UInt8), l.length = k → be k (nm l) = l from h _ l rfl
  intro k
  induction k with
  | zero => intro l h; rw [List.length_eq_zero_iff.1 h]; rfl
  | succ k ih =>
    intro l h
    have hne : l ≠ [] := fun e => by simp [e] at h
    obtain ⟨r, b, rfl⟩ : ∃ r b, l = r ++ [b] := ⟨l.dropLast, l.getLast hne, (List.dropLast_concat_getLast hne).symm⟩
    have hb := b.toNat_lt
    rw [nm_snoc, be_snoc, show (nm r * 256 + b.toNat) / 256 = nm r by omega, ih r (by simpa using h)]
    congr 2
    apply UInt8.toNat_inj.1
    rw [UInt8.toNat_ofNat', show (2 : Nat) ^ 8 = 256 from rfl]
    omega
theorem be_len_nm (l : List UInt8) (k : Nat) (h : l.length = k) : be k (nm l) = l := by subst h; exact be_nm l

/-- The number in the m bytes of q from a on. -/
def fld (q : List UInt8) (a m : Nat) : Nat := nm ((q.drop a).take m)
theorem fld_lt (q : List UInt8) (a m : Nat) : fld q a m < 256 ^ m := by
  have h := nm_lt ((q.drop a).take m)
  have h2 : ((q.drop a).take m).length ≤ m := by rw [List.length_take]; exact Nat.min_le_left _ _
  exact Nat.lt_of_lt_of_le h (Nat.pow_le_pow_right (by omega) h2)
theorem fld1_lt (q : List UInt8) (a : Nat) : fld q a 1 ≤ 255 := by have := fld_lt q a 1; omega
theorem fld2_lt (q : List UInt8) (a : Nat) : fld q a 2 ≤ 65535 := by have := fld_lt q a 2; omega
theorem fld4_lt (q : List UInt8) (a : Nat) : fld q a 4 ≤ 4294967295 := by have := fld_lt q a 4; omega
/-- Bytes further back make no difference. -/
theorem fld_take (q : List UInt8) (n a m : Nat) (h : a + m ≤ n) : fld (q.take n) a m = fld q a m := by
  unfold fld
  congr 1
  rw [List.drop_take, List.take_take, Nat.min_eq_left (by omega)]
theorem fld_app (P M R : List UInt8) (a m : Nat) (ha : P.length = a) (hm : M.length = m) : fld (P ++ M ++ R) a m = nm M := by
  unfold fld
  rw [List.append_assoc, List.drop_left' ha, List.take_left' hm]
theorem fld_one (q : List UInt8) (a : Nat) (h : a < q.length) : fld q a 1 = q[a].toNat := by
  unfold fld
  rw [List.drop_eq_getElem_cons h]
  show nm [q[a]] = _
  exact nm_one _
theorem fld_two (q : List UInt8) (a : Nat) (h : a + 1 < q.length) : fld q a 2 = fld q a 1 * 256 + fld q (a + 1) 1 := by
  rw [fld_one q a (by omega), fld_one q (a + 1) h]
  unfold fld
  rw [List.drop_eq_getElem_cons (by omega), List.drop_eq_getElem_cons h]
  show nm [q[a], q[a + 1]] = _
  exact nm_two _ _
theorem be_fld (q : List UInt8) (a m : Nat) (h : a + m ≤ q.length) : be m (fld q a m) = (q.drop a).take m := be_len_nm _ _ (by rw [List.length_take, List.length_drop]; omega)

/-- A segment. -/
structure Sg where
  path : Int
  src : Nat
  dst : Nat
  seq : Nat
  ack : Nat
  syn : Bool
  ackOn : Bool
  fin : Bool
  rst : Bool
  win : Nat
  area : ByteArray
  data : ByteArray
/-- That of which each field is zero. -/
def Sg.zero : Sg := ⟨0, 0, 0, 0, 0, false, false, false, false, 0, ⟨#[]⟩, ⟨#[]⟩⟩
/-- Its numbers fit their kinds. -/
structure Sg.Ok (x : Sg) : Prop where
  src : x.src ≤ 65535
  dst : x.dst ≤ 65535
  seq : x.seq ≤ 4294967295
  ack : x.ack ≤ 4294967295
  win : x.win ≤ 65535
  area : x.area.size ≤ 9223372036854775000
  data : x.data.size ≤ 9223372036854775000
def Sg.flags (x : Sg) : Nat := (if x.fin then 1 else 0) + (if x.syn then 2 else 0) + (if x.rst then 4 else 0) + (if x.ackOn then 16 else 0)
theorem Sg.flags_le (x : Sg) : x.flags ≤ 23 := by unfold Sg.flags; split <;> split <;> split <;> split <;> omega
/-- The bytes before the checksum; all fixed bytes, with that checksum. -/
def Sg.pre (x : Sg) : List UInt8 := be 2 x.src ++ be 2 x.dst ++ be 4 x.seq ++ be 4 x.ack ++ be 1 ((20 + x.area.size) / 4 * 16) ++ be 1 x.flags ++ be 2 x.win
theorem Sg.pre_length (x : Sg) : x.pre.length = 16 := by simp [Sg.pre, be_length]
def Sg.front (x : Sg) (c : Nat) : List UInt8 := x.pre ++ be 2 c ++ [0, 0]
theorem Sg.front_length (x : Sg) (c : Nat) : (x.front c).length = 20 := by simp [Sg.front, be_length, Sg.pre_length]
def Sg.rest (x : Sg) : List UInt8 := x.area.data.toList ++ x.data.data.toList
/-- The sum of all bytes, with no checksum; the checksum. -/
def Sg.sum (x : Sg) : Int := fold (tot (x.front 0 ++ x.rest))
def Sg.check (x : Sg) : Nat := (65535 - x.sum).toNat
/-- Its bytes. -/
def Sg.bytes (x : Sg) : List UInt8 := x.front x.check ++ x.rest
def Sg.fits (x : Sg) : Bool := decide (x.area.size ≤ 40) && (decide (x.area.size % 4 = 0) && decide (x.data.size ≤ 1024))
theorem Sg.sum_b (x : Sg) : 0 ≤ x.sum ∧ x.sum ≤ 65535 := fold_b _ (tot_b _).1
theorem Sg.check_le (x : Sg) : x.check ≤ 65535 := by have := x.sum_b; unfold Sg.check; omega
theorem Sg.check_int (x : Sg) : (x.check : Int) = 65535 - x.sum := by have := x.sum_b; unfold Sg.check; omega
theorem Sg.rest_length (x : Sg) : x.rest.length = x.area.size + x.data.size := by simp [Sg.rest]
theorem Sg.bytes_length (x : Sg) : x.bytes.length = 20 + x.area.size + x.data.size := by rw [Sg.bytes, List.length_append, Sg.front_length, Sg.rest_length]; omega

/-- What bytes are, if they are a segment. -/
def segs (q : List UInt8) : Sg :=
  ⟨0, fld q 0 2, fld q 2 2, fld q 4 4, fld q 8 4, fld q 13 1 / 2 % 2 == 1, fld q 13 1 / 16 % 2 == 1, fld q 13 1 % 2 == 1, fld q 13 1 / 4 % 2 == 1, fld q 14 2, txt ((q.drop 20).take (fld q 12 1 / 4 - 20)), txt (q.drop (fld q 12 1 / 4))⟩
/-- What is wrong with them (0: nothing). -/
def code (q : List UInt8) : Int :=
  if q.length < 20 then 4
  else if fld q 12 1 < 80 ∨ fld q 12 1 % 16 ≠ 0 then 5
  else if q.length < fld q 12 1 / 4 then 4
  else if fld q 13 1 / 32 ≠ 0 ∨ fld q 13 1 / 8 % 2 ≠ 0 ∨ fld q 18 1 ≠ 0 ∨ fld q 19 1 ≠ 0 then 5
  else if q.length - fld q 12 1 / 4 > 1024 then 6
  else if fold (tot q) ≠ 65535 then 10
  else 0
def parsed (q : List UInt8) : Sg := if code q = 0 then segs q else Sg.zero
theorem parsed_t {q : List UInt8} (h : code q = 0) : parsed q = segs q := if_pos h
theorem parsed_f {q : List UInt8} (h : code q ≠ 0) : parsed q = Sg.zero := if_neg h
end Go.Proofs.YthdcjcdgddejbaaDoor
