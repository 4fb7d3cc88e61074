/-
  Plain arithmetic of layer 3: the sum of the words of a text, byte by byte, and what it is folded to. Nothing of the program is here.
-/
import Derived.Laws.BitsAllLaws
import Derived.Laws.BitsLemmas
namespace Go.Proofs.YthdcjcdgddejbaaDoor
set_option linter.unusedVariables false

/-- What a number folds to. -/
def fold (n : Int) : Int := if n = 0 then 0 else (n - 1) % 65535 + 1
theorem fold_b (n : Int) (h : 0 ≤ n) : 0 ≤ fold n ∧ fold n ≤ 65535 := by unfold fold; split <;> omega
theorem fold_0 : fold 0 = 0 := rfl
theorem fold_pos (n : Int) (h : n ≠ 0) : fold n = (n - 1) % 65535 + 1 := if_neg h
theorem fold_mod (n : Int) (h : 0 ≤ n) : fold n % 65535 = n % 65535 := by unfold fold; split <;> omega
theorem fold_zero (n : Int) (h : 0 ≤ n) : fold n = 0 ↔ n = 0 := by unfold fold; split <;> omega
/-- Two numbers fold to one, if they differ by a multiple, and neither or both are 0. -/
theorem fold_eq (n m : Int) (hn : 0 ≤ n) (hm : 0 ≤ m) (h : n % 65535 = m % 65535) (hz : n = 0 ↔ m = 0) : fold n = fold m := by
  unfold fold; split <;> split <;> omega

/-- Behind one byte more: what is counted so far, and whether the next byte is the second one of a word. -/
def adv (s : Int × Bool) (b : UInt8) : Int × Bool := (s.1 + (if s.2 then (b.toNat : Int) else 256 * (b.toNat : Int)), !s.2)
def advs (s : Int × Bool) (bs : List UInt8) : Int × Bool := bs.foldl adv s
theorem advs_nil (s : Int × Bool) : advs s [] = s := rfl
theorem advs_cons (s : Int × Bool) (b : UInt8) (bs : List UInt8) : advs s (b :: bs) = advs (adv s b) bs := rfl
theorem advs_append (s : Int × Bool) (a b : List UInt8) : advs s (a ++ b) = advs (advs s a) b := by simp [advs]
theorem advs_snoc (s : Int × Bool) (a : List UInt8) (b : UInt8) : advs s (a ++ [b]) = adv (advs s a) b := by simp [advs]
/-- The sum of the words of a text. -/
def tot (bs : List UInt8) : Int := (advs (0, false) bs).1

theorem adv_par (s : Int × Bool) (b : UInt8) : (adv s b).2 = !s.2 := rfl
theorem advs_par : ∀ (bs : List UInt8) (s : Int × Bool), (advs s bs).2 = (if bs.length % 2 = 0 then s.2 else !s.2)
  | [], s => by simp [advs]
  | b :: bs, s => by
    rw [advs_cons, advs_par bs, adv_par]
    by_cases h : bs.length % 2 = 0
    · rw [if_pos h, if_neg (by rw [List.length_cons]; omega)]
    · rw [if_neg h, if_pos (by rw [List.length_cons]; omega)]; simp
theorem adv_b (s : Int × Bool) (b : UInt8) : s.1 ≤ (adv s b).1 ∧ (adv s b).1 ≤ s.1 + 65280 := by
  have := b.toNat_lt
  unfold adv; dsimp only; split <;> omega
theorem advs_b : ∀ (bs : List UInt8) (s : Int × Bool), s.1 ≤ (advs s bs).1 ∧ (advs s bs).1 ≤ s.1 + 65280 * (bs.length : Int)
  | [], s => by simp [advs]
  | b :: bs, s => by
    rw [advs_cons]
    have h1 := advs_b bs (adv s b)
    have h2 := adv_b s b
    have : ((b :: bs).length : Int) = bs.length + 1 := by simp
    omega
/-- What is counted behind it is counted from 0 on, and added. -/
theorem advs_add : ∀ (bs : List UInt8) (t : Int) (c : Bool), (advs (t, c) bs).1 = t + (advs (0, c) bs).1
  | [], t, c => by simp [advs]
  | b :: bs, t, c => by
    rw [advs_cons, advs_cons]
    have e1 : adv (t, c) b = (t + (if c then (b.toNat : Int) else 256 * (b.toNat : Int)), !c) := rfl
    have e2 : adv (0, c) b = (0 + (if c then (b.toNat : Int) else 256 * (b.toNat : Int)), !c) := rfl
    rw [e1, e2, advs_add bs (t + _), advs_add bs (0 + _)]
    omega
theorem tot_b (bs : List UInt8) : 0 ≤ tot bs ∧ tot bs ≤ 65280 * (bs.length : Int) := by
  have := advs_b bs (0, false)
  unfold tot; simpa using this
theorem par_even (bs : List UInt8) (h : bs.length % 2 = 0) : (advs (0, false) bs).2 = false := by rw [advs_par, if_pos h]
theorem tot_append (a b : List UInt8) (h : a.length % 2 = 0) : tot (a ++ b) = tot a + tot b := by
  unfold tot
  rw [advs_append]
  have e : advs (0, false) a = ((advs (0, false) a).1, false) := Prod.ext rfl (par_even a h)
  rw [e, advs_add]
/-- A byte 0 behind a text makes no difference. -/
theorem tot_zero (a : List UInt8) : tot (a ++ [0]) = tot a := by
  unfold tot
  rw [advs_snoc]
  show (advs (0, false) a).1 + (if (advs (0, false) a).2 then ((0 : UInt8).toNat : Int) else 256 * ((0 : UInt8).toNat : Int)) = _
  split <;> simp
theorem tot_zeros (a : List UInt8) : tot (a ++ [0, 0]) = tot a := by
  rw [show a ++ [0, 0] = (a ++ [0]) ++ [0] by simp, tot_zero, tot_zero]
/-- How much a byte counts. -/
def wt (c : Bool) (p : Nat) : Int := if c = (p % 2 = 1) then 256 else 1
theorem wt_even (p : Nat) (h : p % 2 = 0) : wt false p = 256 := by unfold wt; rw [if_pos]; simp; omega
theorem wt_odd (p : Nat) (h : p % 2 = 1) : wt false p = 1 := by unfold wt; rw [if_neg]; simp; omega
theorem wt_succ (c : Bool) (p : Nat) : wt c (p + 1) = wt (!c) p := by
  unfold wt
  have : (p + 1) % 2 = 1 ↔ ¬ p % 2 = 1 := by omega
  cases c <;> simp [this]
/-- One byte set anew. -/
theorem advs_set : ∀ (bs : List UInt8) (c : Bool) (p : Nat) (v : UInt8) (h : p < bs.length), (advs (0, c) (bs.set p v)).1 = (advs (0, c) bs).1 + wt c p * ((v.toNat : Int) - (bs[p].toNat : Int))
  | [], _, p, _, h => absurd h (by simp)
  | b :: bs, c, 0, v, _ => by
    show (advs (0, c) (v :: bs)).1 = _
    rw [advs_cons, advs_cons]
    have e1 : ∀ x : UInt8, adv (0, c) x = (0 + (if c then (x.toNat : Int) else 256 * (x.toNat : Int)), !c) := fun _ => rfl
    rw [e1, e1, advs_add, advs_add (t := 0 + (if c then (b.toNat : Int) else 256 * (b.toNat : Int)))]
    cases c <;> simp [wt] <;> omega
  | b :: bs, c, p + 1, v, h => by
    show (advs (0, c) (b :: bs.set p v)).1 = _
    rw [advs_cons, advs_cons]
    have e1 : adv (0, c) b = (0 + (if c then (b.toNat : Int) else 256 * (b.toNat : Int)), !c) := rfl
    rw [e1, advs_add, advs_add (bs := bs), advs_set bs (!c) p v (by simpa using h), wt_succ]
    have e2 : (b :: bs)[p + 1] = bs[p]'(by simpa using h) := rfl
    rw [e2]; omega
theorem tot_set_even (bs : List UInt8) (p : Nat) (v : UInt8) (h : p < bs.length) (hp : p % 2 = 0) : tot (bs.set p v) = tot bs + 256 * ((v.toNat : Int) - (bs[p].toNat : Int)) := by
  unfold tot; rw [advs_set bs false p v h, wt_even p hp]
theorem tot_set_odd (bs : List UInt8) (p : Nat) (v : UInt8) (h : p < bs.length) (hp : p % 2 = 1) : tot (bs.set p v) = tot bs + ((v.toNat : Int) - (bs[p].toNat : Int)) := by
  unfold tot; rw [advs_set bs false p v h, wt_odd p hp]; omega
/-- All parts, one behind the other. -/
def flat (ss : List ByteArray) : List UInt8 := (ss.map fun s => s.data.toList).flatten
theorem flat_nil : flat [] = [] := rfl
theorem flat_cons (s : ByteArray) (ss : List ByteArray) : flat (s :: ss) = s.data.toList ++ flat ss := rfl
theorem flat_take (ss : List ByteArray) (i : Nat) (s : ByteArray) (h : ss[i]? = some s) : flat (ss.take (i + 1)) = flat (ss.take i) ++ s.data.toList := by
  have hi : i < ss.length := (List.getElem?_eq_some_iff.1 h).1
  have e : ss[i] = s := (List.getElem?_eq_some_iff.1 h).2
  rw [List.take_add_one, flat, flat, List.map_append, List.flatten_append, h]
  simp
theorem flat_take_le (ss : List ByteArray) (i : Nat) : (flat (ss.take i)).length ≤ (flat ss).length := by
  have h : flat ss = flat (ss.take i) ++ flat (ss.drop i) := by
    conv => lhs; rw [← List.take_append_drop i ss]
    rw [flat, flat, flat, List.map_append, List.flatten_append]
  rw [h, List.length_append]; omega
theorem size_le_flat (ss : List ByteArray) (i : Nat) (s : ByteArray) (h : ss[i]? = some s) : (flat (ss.take i)).length + s.size ≤ (flat ss).length := by
  have h1 := flat_take_le ss (i + 1)
  rw [flat_take ss i s h, List.length_append] at h1
  exact h1
theorem take_snoc (s : ByteArray) (k : Nat) (h : k < s.size) : s.data.toList.take (k + 1) = s.data.toList.take k ++ [s[k]] := by
  have hl : k < s.data.toList.length := by simpa using h
  rw [List.take_add_one, List.getElem?_eq_getElem hl]
  rfl
theorem take_all (s : ByteArray) : s.data.toList.take s.size = s.data.toList := List.take_of_length_le (Nat.le_refl _)
/-- Two bytes, as one word. -/
theorem or_word (a b : Int) (ha : 0 ≤ a) (ha' : a ≤ 255) (hb : 0 ≤ b) (hb' : b ≤ 255) : bits .or .u16 (a * 256) b = 256 * a + b := by
  obtain ⟨n, rfl⟩ := Int.eq_ofNat_of_zero_le ha
  obtain ⟨c, rfl⟩ := Int.eq_ofNat_of_zero_le hb
  have e : ((n : Int) * 256) = ((n * 256 : Nat) : Int) := by omega
  have h : n * 256 ||| c = n * 256 + c := by
    have := Nat.shiftLeft_add_eq_or_of_lt (b := c) (i := 8) (by omega) n
    rw [Nat.shiftLeft_eq, show (2 : Nat) ^ 8 = 256 from rfl] at this
    exact this.symm
  rw [e, u16_or_nat (n * 256) c (by omega) (by omega), h]
  omega
theorem val_int {k : IntKind} {a b : Int} (h : a = b) : Value.int k a = .int k b := by rw [h]
end Go.Proofs.YthdcjcdgddejbaaDoor
