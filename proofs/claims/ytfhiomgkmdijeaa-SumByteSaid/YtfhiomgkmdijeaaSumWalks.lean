/-
  What the small functions of package sum answer, each by its walk: Fold, Same, Not, Turn; and the document's own answers of them (plaitref03).
-/
import Derived.Test.YtfhiomgkmdijeaaSumWords
import Derived.Test.YtfhiomgkmdijeaaSumPlain
import Derived.Deep.QuietTactic
import Derived.BigQuiet
import Derived.IntWalk
namespace Go.Proofs.Ytfhiomgkmdijeaa
open Go.ChangeShapes Go.WideShapes Go.ChangeAt Go.RowKit
set_option linter.unusedVariables false

theorem Fold_any (n : Int) (h : 0 ≤ n) (h' : n ≤ 18446744073709551615) (w : World) :
    Calls Try.prog 15 #[.int .u64 n] w fun e w' => e = .returned (.int .u16 (fold n)) ∧ w = w' := by
  by_cases hz : n = 0
  · subst hz
    go_enter Try.func15, Try.ntmps15
    go_wp2
    go_ret; exact ⟨rfl, rfl⟩
  · obtain ⟨r, hr⟩ : ∃ r, fold n = r := ⟨_, rfl⟩
    have e := fold_pos n hz
    have e0 : (n != 0) = true := by simp [hz]
    rw [hr] at e ⊢
    have HE := Lib.hid e
    clear e hr
    go_enter Try.func15, Try.ntmps15
    go_wp2
    go_ret; exact ⟨ret_int (by have := HE.out; omega), rfl⟩
theorem Fold_ref (n : Int) (h : 0 ≤ n) (h' : n ≤ 18446744073709551615) (w : World) :
    Calls Try.prog 16 #[.int .u64 n] w fun e w' => e = .returned (.int .u16 (fold n)) ∧ w = w' := by
  by_cases hz : n = 0
  · subst hz
    go_enter Try.func16, Try.ntmps16
    go_wp2
    go_ret; exact ⟨rfl, rfl⟩
  · obtain ⟨r, hr⟩ : ∃ r, fold n = r := ⟨_, rfl⟩
    have e := fold_pos n hz
    have e0 : (n != 0) = true := by simp [hz]
    rw [hr] at e ⊢
    have HE := Lib.hid e
    clear e hr
    go_enter Try.func16, Try.ntmps16
    go_wp2
    go_ret; exact ⟨ret_int (by have := HE.out; omega), rfl⟩
theorem Not_any (a : Int) (h : 0 ≤ a) (h' : a ≤ 65535) (w : World) :
    Calls Try.prog 19 #[.int .u16 a] w fun e w' => e = .returned (.int .u16 (65535 - a)) ∧ w = w' := by
  go_enter Try.func19, Try.ntmps19
  go_wp2
  go_ret; exact ⟨rfl, rfl⟩
theorem Not_ref (a : Int) (h : 0 ≤ a) (h' : a ≤ 65535) (w : World) :
    Calls Try.prog 20 #[.int .u16 a] w fun e w' => e = .returned (.int .u16 (65535 - a)) ∧ w = w' := by
  go_enter Try.func20, Try.ntmps20
  go_wp2
  go_ret; exact ⟨rfl, rfl⟩
theorem Same_any (a b : Int) (h : 0 ≤ a) (h' : a ≤ 65535) (k : 0 ≤ b) (k' : b ≤ 65535) (w : World) :
    Calls Try.prog 17 #[.int .u16 a, .int .u16 b] w fun e w' => e = .returned (.bool (a % 65535 == b % 65535)) ∧ w = w' := by
  go_enter Try.func17, Try.ntmps17
  go_wp2
  go_ret; exact ⟨rfl, rfl⟩
theorem Same_ref (a b : Int) (h : 0 ≤ a) (h' : a ≤ 65535) (k : 0 ≤ b) (k' : b ≤ 65535) (w : World) :
    Calls Try.prog 18 #[.int .u16 a, .int .u16 b] w fun e w' => e = .returned (.bool (a % 65535 == b % 65535)) ∧ w = w' := by
  go_enter Try.func18, Try.ntmps18
  go_wp2
  go_ret; exact ⟨rfl, rfl⟩
theorem Turn_any (s a b : Int) (h : 0 ≤ s) (h' : s ≤ 65535) (k : 0 ≤ a) (k' : a ≤ 65535) (m : 0 ≤ b) (m' : b ≤ 65535) (w : World) :
    Calls Try.prog 21 #[.int .u16 s, .int .u16 a, .int .u16 b] w fun e w' => e = .returned (.int .u16 (fold (s + (65535 - a) + b))) ∧ w = w' := by
  go_enter Try.func21, Try.ntmps21
  go_wp2_with (first | (go_at_call 19; refine (Not_any a k k' _).mono ?_; rintro e w' ⟨rfl, rfl⟩) | (go_at_call 15; refine (Fold_any _ (by omega) (by omega) _).mono ?_; rintro e w' ⟨rfl, rfl⟩))
  go_ret; exact ⟨rfl, rfl⟩
theorem Turn_ref (s a b : Int) (h : 0 ≤ s) (h' : s ≤ 65535) (k : 0 ≤ a) (k' : a ≤ 65535) (m : 0 ≤ b) (m' : b ≤ 65535) (w : World) :
    Calls Try.prog 22 #[.int .u16 s, .int .u16 a, .int .u16 b] w fun e w' => e = .returned (.int .u16 (fold (s + (65535 - a) + b))) ∧ w = w' := by
  go_enter Try.func22, Try.ntmps22
  go_wp2_with (go_at_call 16; refine (Fold_ref _ (by omega) (by omega) _).mono ?_; rintro e w' ⟨rfl, rfl⟩)
  go_ret; exact ⟨rfl, rfl⟩
end Go.Proofs.Ytfhiomgkmdijeaa
