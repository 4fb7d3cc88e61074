/-
  What Same answers, by its walk and that of gather over bytes: whether two texts are one.
-/
import Derived.Test.YtcbakfnpbhgjoaaDoorHmacSmall
import Derived.Laws.BitsAllLaws
namespace Go.Proofs.YtcbakfnpbhgjoaaDoor
open Go.ChangeShapes Go.WideShapes Go.ChangeAt Go.RowKit
set_option linter.unusedVariables false

/-- The differences of the first k pairs, put together. -/
def orx (a b : List UInt8) : Nat → UInt8
  | 0 => 0
  | k + 1 => orx a b k ||| (a.getD k 0 ^^^ b.getD k 0)
theorem u8_or_zero (x y : UInt8) : x ||| y = 0 ↔ x = 0 ∧ y = 0 := by
  rw [← UInt8.toNat_inj, ← UInt8.toNat_inj, ← UInt8.toNat_inj, UInt8.toNat_or]
  exact Nat.or_eq_zero_iff
theorem orx_zero (a b : List UInt8) : ∀ k, orx a b k = 0 ↔ ∀ i, i < k → a.getD i 0 = b.getD i 0
  | 0 => by simp [orx]
  | k + 1 => by
    rw [orx, u8_or_zero, orx_zero a b k, UInt8.xor_eq_zero_iff]
    constructor
    · rintro ⟨h, e⟩ i hi
      rcases Nat.lt_or_ge i k with q | q
      · exact h i q
      · obtain rfl : i = k := by omega
        exact e
    · intro h
      exact ⟨fun i hi => h i (by omega), h k (by omega)⟩
theorem orx_same (a b : List UInt8) : (orx a b (max a.length b.length) = 0 ∧ a.length = b.length) ↔ a = b := by
  rw [orx_zero]
  constructor
  · rintro ⟨h, hl⟩
    apply List.ext_getElem hl
    intro i h1 h2
    have := h i (by omega)
    simpa [h1, h2] using this
  · rintro rfl; exact ⟨fun _ _ => rfl, rfl⟩

theorem same1_any (x y : UInt8) (w : World) :
    Calls Tryd.prog 56 #[.int .u8 (x.toNat : Int), .int .u8 (y.toNat : Int)] w fun e w' => e = .returned (.int .u8 ((x ||| y).toNat : Int)) ∧ w = w' := by
  have h := u8_or_nat x.toNat y.toNat x.toNat_lt y.toNat_lt
  rw [UInt8.toNat_or]
  go_enter Tryd.func56, Tryd.ntmps56
  go_wp2
  go_ret; exact ⟨rfl, rfl⟩

set_option maxRecDepth 100000 in
theorem gatherB_any (a b : ByteArray) (ha : a.size ≤ 140737488355328) (hb : b.size ≤ 140737488355328) (w : World) :
    Calls Tryd.prog 55 #[.string a, .string b, .int .u8 0, .func (.func 56) #[] #[]] w fun e w' => e = .returned (.int .u8 ((orx a.data.toList b.data.toList (max a.size b.size)).toNat : Int)) ∧ w = w' := by
  obtain ⟨m, hm⟩ : ∃ m, m = max a.size b.size := ⟨_, rfl⟩
  have hmx : (if (a.size : Int) < (b.size : Int) then (b.size : Int) else (a.size : Int)) = (m : Int) := by split <;> omega
  have hmy : (if a.size < b.size then (b.size : Int) else (a.size : Int)) = (m : Int) := by split <;> omega
  rw [← hm]
  clear hm
  go_enter Tryd.func55, Tryd.ntmps55
  go_wp2_with fail
  go_loopw [2, 15] (fun g i wr => ∃ k : Nat, k ≤ m ∧ g = .int .u8 ((orx a.data.toList b.data.toList k).toNat : Int) ∧ i = .int .i64 (k : Int) ∧ w = wr) (fun _ i _ => m - (intOf i).toNat)
  case atStart => exact ⟨0, Nat.zero_le _, rfl, rfl, rfl⟩
  case round =>
    obtain ⟨k, hk, rfl, rfl, rfl⟩ := hrel
    by_cases hlt : k < m
    · obtain ⟨o, ho⟩ : ∃ o, o = orx a.data.toList b.data.toList k := ⟨_, rfl⟩
      obtain ⟨x, hx⟩ : ∃ x, x = a.data.toList.getD k 0 := ⟨_, rfl⟩
      obtain ⟨y, hy⟩ : ∃ y, y = b.data.toList.getD k 0 := ⟨_, rfl⟩
      have hn : orx a.data.toList b.data.toList (k + 1) = o ||| (x ^^^ y) := by rw [orx, ho, hx, hy]
      have hxy := u8_xor_nat x.toNat y.toNat x.toNat_lt y.toNat_lt
      rw [← UInt8.toNat_xor] at hxy
      have HN := Lib.hid hn
      have HX := Lib.hid hx
      have HY := Lib.hid hy
      rw [← ho]
      clear hn ho hx hy
      go_wp2_with fail
      refine (byteAt_any a k (by omega) w).mono ?_
      rintro e w1 ⟨rfl, rfl⟩
      rw [← HX.out]
      go_wp2_with fail
      refine (byteAt_any b k (by omega) w).mono ?_
      rintro e w1 ⟨rfl, rfl⟩
      rw [← HY.out]
      go_wp2_with fail
      refine (same1_any o (x ^^^ y) w).mono ?_
      rintro e w1 ⟨rfl, rfl⟩
      go_wp2_with fail
      go_roundw
      case rel => exact ⟨k + 1, by omega, by rw [HN.out, UInt8.toNat_or, UInt8.toNat_xor], by go_num, trivial⟩
      case measure => simp [intOf]; omega
    · obtain rfl : k = m := by omega
      clear hlt
      go_wp2_with fail
      go_ret; exact ⟨rfl, rfl⟩

set_option maxRecDepth 100000 in
theorem Same_any (a b : ByteArray) (r : Bool) (hr : r = true ↔ a = b) (ha : a.size ≤ 140737488355328) (hb : b.size ≤ 140737488355328) (w : World) :
    Calls Tryd.prog 31 #[.string a, .string b] w fun e w' => e = .returned (.bool r) ∧ w = w' := by
  obtain ⟨o, ho⟩ : ∃ o, o = orx a.data.toList b.data.toList (max a.size b.size) := ⟨_, rfl⟩
  have key : (o = 0 ∧ a.size = b.size) ↔ r = true := by
    have := orx_same a.data.toList b.data.toList
    rw [len_data, len_data, ← ho] at this
    rw [this, hr]
    exact ⟨txt_ext, fun e => by rw [e]⟩
  have HO := Lib.hid ho
  clear ho hr
  by_cases h0 : o = 0
  · by_cases hs : a.size = b.size
    · obtain rfl := key.1 ⟨h0, hs⟩
      subst h0
      clear key
      go_enter Tryd.func31, Tryd.ntmps31
      go_wp2_with fail
      refine (gatherB_any a b ha hb w).mono ?_
      rintro e w1 ⟨rfl, rfl⟩
      rw [← HO.out]
      go_wp2_with fail
      go_ret; exact ⟨rfl, rfl⟩
    · obtain rfl : r = false := by cases r <;> simp_all
      subst h0
      clear key
      go_enter Tryd.func31, Tryd.ntmps31
      go_wp2_with fail
      refine (gatherB_any a b ha hb w).mono ?_
      rintro e w1 ⟨rfl, rfl⟩
      rw [← HO.out]
      go_wp2_with fail
      go_ret; exact ⟨ret_bool (beq_eq_false_iff_ne.2 fun e => hs (by omega)), rfl⟩
  · obtain rfl : r = false := by cases r <;> simp_all
    have h1 : ((o.toNat : Int) == 0) = false := beq_eq_false_iff_ne.2 fun e => h0 (UInt8.toNat_inj.1 (by simp; omega))
    have h2 : ¬ ((o.toNat : Int) = 0) := fun e => h0 (UInt8.toNat_inj.1 (by simp; omega))
    clear key
    go_enter Tryd.func31, Tryd.ntmps31
    go_wp2_with fail
    refine (gatherB_any a b ha hb w).mono ?_
    rintro e w1 ⟨rfl, rfl⟩
    rw [← HO.out]
    go_wp2_with fail
    go_ret; exact ⟨rfl, rfl⟩
end Go.Proofs.YtcbakfnpbhgjoaaDoor
