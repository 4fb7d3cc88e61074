/-
  What the small functions of package sha answer about words, each by its walk: rotated (and the library's RotateLeft32), xor.
-/
import Derived.Test.YtcbakfnpbhgjoaaDoorShaPlain
import Derived.Deep.QuietTactic
import Derived.BigQuiet
import Derived.IntWalk
import Derived.Laws.BitsAllLaws
namespace Go.Proofs.YtcbakfnpbhgjoaaDoor
open Go.ChangeShapes Go.WideShapes Go.ChangeAt Go.RowKit
set_option linter.unusedVariables false

theorem rot_le (k x : Nat) : rot MW k x ≤ MW := MW_le _
theorem shd_le (k x : Nat) : shd MW k x ≤ MW := MW_le _
theorem turn_by (k : Nat) (h : 1 ≤ k) (h' : k ≤ 31) : bits .and .u64 (IntKind.u64.wrap (-(k : Int))) 31 = ((32 - k : Nat) : Int) := by
  have all : ∀ i : Fin 32, 1 ≤ i.val → bits .and .u64 (IntKind.u64.wrap (-((i.val : Nat) : Int))) 31 = ((32 - i.val : Nat) : Int) := by decide +kernel
  exact all ⟨k, by omega⟩ h

theorem or_rot (k x : Nat) (h : x ≤ MW) (h2 : k ≤ 31) : bits .or .u32 ((x : Int) * 2 ^ (32 - k) % 4294967296) ((x : Int) / 2 ^ (32 - (32 - k))) = ((rot MW k x : Nat) : Int) := by
  have e1 : ((x : Int) * 2 ^ (32 - k) % 4294967296) = ((x <<< (32 - k) % 4294967296 : Nat) : Int) := by rw [Nat.shiftLeft_eq, Int.natCast_emod, Int.natCast_mul, Int.natCast_pow]; rfl
  have e2 : ((x : Int) / 2 ^ (32 - (32 - k))) = ((x >>> k : Nat) : Int) := by rw [Nat.shiftRight_eq_div_pow, show 32 - (32 - k) = k by omega, Int.natCast_ediv, Int.natCast_pow]; rfl
  have hx : x >>> k ≤ x := Nat.shiftRight_le x k
  have hM : (MW : Nat) = 4294967295 := rfl
  rw [e1, e2, u32_or_nat _ _ (Nat.mod_lt _ (by decide)) (by omega), rot, and_MW, show (4294967296 : Nat) = 2 ^ 32 by rfl, Nat.or_mod_two_pow, Nat.mod_eq_of_lt (show x >>> k < 2 ^ 32 by omega), Nat.or_comm]
theorem RotateLeft32_any (k x : Nat) (h : x ≤ MW) (h1 : 1 ≤ k) (h2 : k ≤ 31) (w : World) :
    Calls Tryd.prog 107 #[.int .u32 (x : Int), .int .i64 (-(k : Int))] w fun e w' => e = .returned (.int .u32 ((rot MW k x : Nat) : Int)) ∧ w = w' := by
  have hs := turn_by k h1 h2
  obtain ⟨s, hk⟩ : ∃ s, s = 32 - k := ⟨_, rfl⟩
  rw [← hk] at hs
  have hk' : k + s = 32 := by omega
  go_enter Tryd.func107, Tryd.ntmps107
  go_wp2
  go_ret; exact ⟨ret_int (or_rot k x h h2), rfl⟩

theorem rotated_any (k x : Nat) (h : x ≤ MW) (h1 : 1 ≤ k) (h2 : k ≤ 31) (w : World) :
    Calls Tryd.prog 100 #[.int .u32 (x : Int), .int .i64 (k : Int)] w fun e w' => e = .returned (.int .u32 ((rot MW k x : Nat) : Int)) ∧ w = w' := by
  go_enter Tryd.func100, Tryd.ntmps100
  go_wp2_with (go_at_call 107; refine (RotateLeft32_any k x h h1 h2 _).mono ?_; rintro e w' ⟨rfl, rfl⟩)
  go_ret; exact ⟨rfl, rfl⟩
/-- The same, by the number as it stands. -/
theorem rotated_i (i : Int) (x : Nat) (h : x ≤ MW) (h1 : 1 ≤ i) (h2 : i ≤ 31) (w : World) :
    Calls Tryd.prog 100 #[.int .u32 (x : Int), .int .i64 i] w fun e w' => e = .returned (.int .u32 ((rot MW i.toNat x : Nat) : Int)) ∧ w = w' := by
  obtain ⟨k, rfl⟩ := Int.eq_ofNat_of_zero_le (show 0 ≤ i by omega)
  exact rotated_any k x h (by omega) (by omega) w

theorem xor_any (b x y z : Nat) (t : TypeId) (w : World) (hx : x ≤ MW) (hy : y ≤ MW) (hz : z ≤ MW) (h : Blk w b t #[.int .u32 (x : Int), .int .u32 (y : Int), .int .u32 (z : Int)]) :
    Calls Tryd.prog 99 #[.slice (some ⟨b, 0, none⟩) 3 3] w fun e w' => e = .returned (.int .u32 ((x ^^^ y ^^^ z : Nat) : Int)) ∧ w = w' := by
  have c0 : w.cell? ⟨b, 0, none⟩ = some (.int .u32 (x : Int)) := h.cell 0
  have c1 : w.cell? ⟨b, 1, none⟩ = some (.int .u32 (y : Int)) := h.cell 1
  have c2 : w.cell? ⟨b, 2, none⟩ = some (.int .u32 (z : Int)) := h.cell 2
  clear h
  have x1 : bits .xor .u32 0 (x : Int) = (x : Int) := by have := u32_xor_nat 0 x (by decide) (by unfold MW at hx; omega); simpa using this
  have x2 : bits .xor .u32 (x : Int) (y : Int) = ((x ^^^ y : Nat) : Int) := u32_xor_nat x y (by unfold MW at hx; omega) (by unfold MW at hy; omega)
  have l2 : x ^^^ y < 2 ^ 32 := Nat.xor_lt_two_pow (by unfold MW at hx; omega) (by unfold MW at hy; omega)
  have x3 : bits .xor .u32 ((x ^^^ y : Nat) : Int) (z : Int) = ((x ^^^ y ^^^ z : Nat) : Int) := u32_xor_nat (x ^^^ y) z (by omega) (by unfold MW at hz; omega)
  clear l2 hx hy hz
  obtain ⟨xy, exy⟩ : ∃ n : Nat, n = x ^^^ y := ⟨_, rfl⟩
  rw [← exy] at x2 x3
  rw [← exy]
  obtain ⟨xyz, exyz⟩ : ∃ n : Nat, n = xy ^^^ z := ⟨_, rfl⟩
  rw [← exyz] at x3
  rw [← exyz]
  clear exy exyz
  go_enter Tryd.func99, Tryd.ntmps99
  go_wp2
  go_loopw [8, 3] (fun i x' wr => ∃ j : Nat, j ≤ 3 ∧ i = .int .i64 (j : Int) ∧ x' = .int .u32 (((if j = 0 then 0 else if j = 1 then x else if j = 2 then xy else xyz) : Nat) : Int) ∧ w = wr) (fun i _ _ => 3 - (intOf i).toNat)
  case atStart => exact ⟨0, by decide, rfl, rfl, rfl⟩
  case round =>
    obtain ⟨j, hj, rfl, rfl, rfl⟩ := hrel
    obtain rfl | rfl | rfl | rfl : j = 0 ∨ j = 1 ∨ j = 2 ∨ j = 3 := by omega
    · simp only [if_pos]
      go_wp2
      go_roundw
      case rel => exact ⟨1, by decide, rfl, rfl, by first | rfl | trivial⟩
      case measure => simp [intOf]
    · go_wp2
      go_roundw
      case rel => exact ⟨2, by decide, rfl, rfl, by first | rfl | trivial⟩
      case measure => simp [intOf]
    · go_wp2
      go_roundw
      case rel => exact ⟨3, by decide, rfl, rfl, by first | rfl | trivial⟩
      case measure => simp [intOf]
    · go_wp2
      go_ret; exact ⟨rfl, rfl⟩
theorem or_chs (e f g : Nat) (he : e ≤ MW) (hf : f ≤ MW) (hg : g ≤ MW) :
    bits .or .u32 (bits .and .u32 (e : Int) (f : Int)) (bits .and .u32 (bits .xor .u32 IntKind.u32.max (e : Int)) (g : Int)) = ((chs MW e f g : Nat) : Int) := by
  have hM : (MW : Nat) = 4294967295 := rfl
  have l1 : MW ^^^ e < 2 ^ 32 := Nat.xor_lt_two_pow (by decide) (by omega)
  have l2 : e &&& f < 2 ^ 32 := Nat.and_lt_two_pow e (by omega)
  have l3 : (MW ^^^ e) &&& g < 2 ^ 32 := Nat.and_lt_two_pow _ (by omega)
  rw [show IntKind.u32.max = ((MW : Nat) : Int) by rfl, u32_and_nat e f (by omega) (by omega), u32_xor_nat MW e (by omega) (by omega), u32_and_nat _ g (by omega) (by omega), u32_or_nat _ _ (by omega) (by omega), chs]
theorem or_mjs (a b c : Nat) (ha : a ≤ MW) (hb : b ≤ MW) (hc : c ≤ MW) :
    bits .or .u32 (bits .or .u32 (bits .and .u32 (a : Int) (b : Int)) (bits .and .u32 (a : Int) (c : Int))) (bits .and .u32 (b : Int) (c : Int)) = ((mjs a b c : Nat) : Int) := by
  have hM : (MW : Nat) = 4294967295 := rfl
  have l1 : a &&& b < 2 ^ 32 := Nat.and_lt_two_pow a (by omega)
  have l2 : a &&& c < 2 ^ 32 := Nat.and_lt_two_pow a (by omega)
  have l3 : b &&& c < 2 ^ 32 := Nat.and_lt_two_pow b (by omega)
  have l4 : (a &&& b) ||| (a &&& c) < 2 ^ 32 := Nat.or_lt_two_pow l1 l2
  rw [u32_and_nat a b (by omega) (by omega), u32_and_nat a c (by omega) (by omega), u32_and_nat b c (by omega) (by omega), u32_or_nat _ _ (by omega) (by omega), u32_or_nat _ _ (by omega) (by omega), mjs]
end Go.Proofs.YtcbakfnpbhgjoaaDoor
