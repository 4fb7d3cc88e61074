/-
  What the small functions of package sum answer, each by its walk: Fold, Same, Not, Turn; and the document's own answers of them (plaitref03).
-/
import Derived.Test.YthdcjcdgddejbaaDoorSumWords
import Derived.Test.YthdcjcdgddejbaaDoorSumPlain
import Derived.Deep.QuietTactic
import Derived.BigQuiet
import Derived.IntWalk
namespace Go.Proofs.YthdcjcdgddejbaaDoor
open Go.ChangeShapes Go.WideShapes Go.ChangeAt Go.RowKit
set_option linter.unusedVariables false

theorem Fold_any (n : Int) (h : 0 ≤ n) (h' : n ≤ 18446744073709551615) (w : World) :
    Calls Tryd.prog 34 #[.int .u64 n] w fun e w' => e = .returned (.int .u16 (fold n)) ∧ w = w' := by
  by_cases hz : n = 0
  · subst hz
    go_enter Tryd.func34, Tryd.ntmps34
    go_wp2
    go_ret; exact ⟨rfl, rfl⟩
  · obtain ⟨r, hr⟩ : ∃ r, fold n = r := ⟨_, rfl⟩
    have e := fold_pos n hz
    have e0 : (n != 0) = true := by simp [hz]
    rw [hr] at e ⊢
    have HE := Lib.hid e
    clear e hr
    go_enter Tryd.func34, Tryd.ntmps34
    go_wp2
    go_ret; exact ⟨ret_int (by have := HE.out; omega), rfl⟩
theorem Fold_ref (n : Int) (h : 0 ≤ n) (h' : n ≤ 18446744073709551615) (w : World) :
    Calls Tryd.prog 35 #[.int .u64 n] w fun e w' => e = .returned (.int .u16 (fold n)) ∧ w = w' := by
  by_cases hz : n = 0
  · subst hz
    go_enter Tryd.func35, Tryd.ntmps35
    go_wp2
    go_ret; exact ⟨rfl, rfl⟩
  · obtain ⟨r, hr⟩ : ∃ r, fold n = r := ⟨_, rfl⟩
    have e := fold_pos n hz
    have e0 : (n != 0) = true := by simp [hz]
    rw [hr] at e ⊢
    have HE := Lib.hid e
    clear e hr
    go_enter Tryd.func35, Tryd.ntmps35
    go_wp2
    go_ret; exact ⟨ret_int (by have := HE.out; omega), rfl⟩
theorem Not_any (a : Int) (h : 0 ≤ a) (h' : a ≤ 65535) (w : World) :
    Calls Tryd.prog 20 #[.int .u16 a] w fun e w' => e = .returned (.int .u16 (65535 - a)) ∧ w = w' := by
  go_enter Tryd.func20, Tryd.ntmps20
  go_wp2
  go_ret; exact ⟨rfl, rfl⟩
theorem Not_ref (a : Int) (h : 0 ≤ a) (h' : a ≤ 65535) (w : World) :
    Calls Tryd.prog 25 #[.int .u16 a] w fun e w' => e = .returned (.int .u16 (65535 - a)) ∧ w = w' := by
  go_enter Tryd.func25, Tryd.ntmps25
  go_wp2
  go_ret; exact ⟨rfl, rfl⟩
end Go.Proofs.YthdcjcdgddejbaaDoor
