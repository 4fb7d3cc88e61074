/-
  What the small functions of package cursor answer, each by its walk: Read, Left, At, End, enoughFor and its closure, has.
-/
import Derived.Test.YtbimdlcgjpeheaaCurWords
import Derived.Deep.QuietTactic
import Derived.BigQuiet
import Derived.Deep.RegionHeld3
import Derived.IntWalk
namespace Go.Proofs.Ytbimdlcgjpeheaa
open Go.ChangeShapes Go.WideShapes Go.ChangeAt Go.RowKit
set_option linter.unusedVariables false

theorem Read_any (s : ByteArray) (w : World) :
    Calls Try.prog 32 #[.string s] w fun e w' => e = .returned (.pointer (some ⟨w.heap.size, 0, none⟩)) ∧ w.alloc (.cells #[.string s, .int .i64 0, .bool false] 100) = w' := by
  go_enter Try.func32, Try.ntmps32
  go_wp2
  go_ret; exact ⟨rfl, rfl⟩


theorem Left_nil (w : World) : Calls Try.prog 54 #[.pointer none] w fun e w' => e = .returned (.int .i64 0) ∧ w = w' := by
  go_enter Try.func54, Try.ntmps54
  go_wp2
  go_ret; exact ⟨rfl, rfl⟩
theorem Left_br (b : Nat) (s : ByteArray) (k : Nat) (w : World) (h : Cur w b s k true) :
    Calls Try.prog 54 #[.pointer (some ⟨b, 0, none⟩)] w fun e w' => e = .returned (.int .i64 0) ∧ w = w' := by
  have c2 := h.c2
  clear h
  go_enter Try.func54, Try.ntmps54
  go_wp2
  go_ret; exact ⟨rfl, rfl⟩
theorem Left_ok (b : Nat) (s : ByteArray) (k : Nat) (w : World) (hs : s.size ≤ 9223372036854775807) (hk : k ≤ s.size) (h : Cur w b s k false) :
    Calls Try.prog 54 #[.pointer (some ⟨b, 0, none⟩)] w fun e w' => e = .returned (.int .i64 ((s.size : Int) - (k : Int))) ∧ ∃ n, w' = w.drewN n := by
  have c0 := h.c0
  have c1 := h.c1
  have c2 := h.c2
  clear h
  go_enter Try.func54, Try.ntmps54
  go_wp2
  go_quiet (fail)
  go_wp2
  go_ret; exact ⟨rfl, _, rfl⟩

theorem End_nil (w : World) : Calls Try.prog 55 #[.pointer none] w fun e w' => e = .returned (.int .i64 1) ∧ w = w' := by
  go_enter Try.func55, Try.ntmps55
  go_wp2
  go_ret; exact ⟨rfl, rfl⟩
theorem End_br (b : Nat) (s : ByteArray) (k : Nat) (w : World) (h : Cur w b s k true) :
    Calls Try.prog 55 #[.pointer (some ⟨b, 0, none⟩)] w fun e w' => e = .returned (.int .i64 4) ∧ w = w' := by
  have c2 := h.c2
  clear h
  go_enter Try.func55, Try.ntmps55
  go_wp2
  go_ret; exact ⟨rfl, rfl⟩
theorem End_more (b : Nat) (s : ByteArray) (k : Nat) (w : World) (hs : s.size ≤ 9223372036854775807) (hk : k < s.size) (h : Cur w b s k false) :
    Calls Try.prog 55 #[.pointer (some ⟨b, 0, none⟩)] w fun e w' => e = .returned (.int .i64 5) ∧ ∃ n, w' = w.drewN n := by
  have c2 := h.c2
  have H := Lib.hid h
  clear h
  go_enter Try.func55, Try.ntmps55
  go_wp2_with (go_at_call 54; (with_reducible refine (Left_ok b s k _ hs (by omega) H.out).mono ?_); rintro e w' ⟨rfl, n, rfl⟩)
  go_ret; exact ⟨rfl, _, rfl⟩
theorem End_done (b : Nat) (s : ByteArray) (w : World) (hs : s.size ≤ 9223372036854775807) (h : Cur w b s s.size false) :
    Calls Try.prog 55 #[.pointer (some ⟨b, 0, none⟩)] w fun e w' => e = .returned (.int .i64 0) ∧ ∃ n, w' = w.drewN n := by
  have c2 := h.c2
  have H := Lib.hid h
  clear h
  go_enter Try.func55, Try.ntmps55
  go_wp2_with (go_at_call 54; (with_reducible refine (Left_ok b s s.size _ hs (by omega) H.out).mono ?_); rintro e w' ⟨rfl, n, rfl⟩)
  go_ret; exact ⟨rfl, _, rfl⟩

/-- The check of whether n bytes are there, as a value: its captured variable lies in block g. -/
abbrev enough (g : Nat) : Value := .func (.func 66) #[] #[.pointer (some ⟨g, 0, none⟩)]

theorem enoughFor_any (n : Int) (w : World) :
    Calls Try.prog 49 #[.int .i64 n] w fun e w' => e = .returned (enough w.heap.size) ∧ w.alloc (.cells #[.int .i64 n] 3) = w' := by
  go_enter Try.func49, Try.ntmps49
  go_wp2
  go_ret; exact ⟨rfl, rfl⟩
theorem enough_t (g : Nat) (n m : Int) (h0 : 0 ≤ n) (h1 : n ≤ m) (w : World) (h : Blk w g 3 #[.int .i64 n]) :
    Calls Try.prog 66 #[.int .i64 m, .pointer (some ⟨g, 0, none⟩)] w fun e w' => e = .returned (.bool true) ∧ w = w' := by
  have c0 : w.cell? ⟨g, 0, none⟩ = some (.int .i64 n) := h.cell 0
  clear h
  go_enter Try.func66, Try.ntmps66
  go_wp2
  go_ret; exact ⟨rfl, rfl⟩
theorem enough_f (g : Nat) (n m : Int) (h1 : n < 0 ∨ m < n) (w : World) (h : Blk w g 3 #[.int .i64 n]) :
    Calls Try.prog 66 #[.int .i64 m, .pointer (some ⟨g, 0, none⟩)] w fun e w' => e = .returned (.bool false) ∧ w = w' := by
  have c0 : w.cell? ⟨g, 0, none⟩ = some (.int .i64 n) := h.cell 0
  clear h
  by_cases h0 : 0 ≤ n
  · have h2 : m < n := by omega
    have h3 : decide (n ≤ m) = false := by simp; omega
    clear h1
    go_enter Try.func66, Try.ntmps66
    go_wp2
    go_ret; exact ⟨rfl, rfl⟩
  · have h2 : n < 0 := by omega
    clear h0 h1
    go_enter Try.func66, Try.ntmps66
    go_wp2
    go_ret; exact ⟨rfl, rfl⟩

theorem has_nil (g : Nat) (w : World) : Calls Try.prog 69 #[.pointer none, enough g] w fun e w' => e = .returned (.bool false) ∧ w = w' := by
  go_enter Try.func69, Try.ntmps69
  go_wp2
  go_ret; exact ⟨rfl, rfl⟩
theorem has_br (b : Nat) (s : ByteArray) (k g : Nat) (w : World) (h : Cur w b s k true) :
    Calls Try.prog 69 #[.pointer (some ⟨b, 0, none⟩), enough g] w fun e w' => e = .returned (.bool false) ∧ w = w' := by
  have c2 := h.c2
  clear h
  go_enter Try.func69, Try.ntmps69
  go_wp2
  go_ret; exact ⟨rfl, rfl⟩
theorem has_t (b : Nat) (s : ByteArray) (k g : Nat) (n : Int) (w : World) (hs : s.size ≤ 9223372036854775807) (hk : k ≤ s.size) (h0 : 0 ≤ n) (hn : n ≤ (s.size : Int) - k) (h : Cur w b s k false) (hg : Blk w g 3 #[.int .i64 n]) :
    Calls Try.prog 69 #[.pointer (some ⟨b, 0, none⟩), enough g] w fun e w' => e = .returned (.bool true) ∧ Moved w w' b s k false := by
  have c0 := h.c0
  have c1 := h.c1
  have c2 := h.c2
  have f2 := h.fz 2
  have H := Lib.hid h
  have G := Lib.hid hg
  clear h hg
  go_enter Try.func69, Try.ntmps69
  go_wp2
  have ew : IntKind.i64.wrap ((s.size : Int) - (k : Int)) = (s.size : Int) - (k : Int) := IntWalk.i64_in _ (by omega)
  go_region_held3 (fun w' => w'.cell? ⟨b, 0, none⟩ = some (.string s) ∧ w'.cell? ⟨b, 1, none⟩ = some (.int .i64 (k : Int))) (first | exact ⟨c0, c1⟩ | exact ⟨Cur.c0 (Cur.setBr H.out false), Cur.c1 (Cur.setBr H.out false)⟩)
    (first | (go_at_call 66; (with_reducible refine (enough_t g n _ h0 (by omega) _ (by exact Blk.drew G.out)).mono ?_); rintro e w' ⟨rfl, rfl⟩))
  clear ew
  go_wp2
  go_ret; exact ⟨rfl, only_drew (only_setCell (.refl _ _) rfl _), Cur.setBr H.out false⟩
theorem has_f (b : Nat) (s : ByteArray) (k g : Nat) (n : Int) (w : World) (hs : s.size ≤ 9223372036854775807) (hk : k ≤ s.size) (hn : n < 0 ∨ (s.size : Int) - k < n) (h : Cur w b s k false) (hg : Blk w g 3 #[.int .i64 n]) :
    Calls Try.prog 69 #[.pointer (some ⟨b, 0, none⟩), enough g] w fun e w' => e = .returned (.bool false) ∧ Moved w w' b s k true := by
  have c0 := h.c0
  have c1 := h.c1
  have c2 := h.c2
  have f2 := h.fz 2
  have H := Lib.hid h
  have G := Lib.hid hg
  clear h hg
  go_enter Try.func69, Try.ntmps69
  go_wp2
  have ew : IntKind.i64.wrap ((s.size : Int) - (k : Int)) = (s.size : Int) - (k : Int) := IntWalk.i64_in _ (by omega)
  go_region_held3 (fun w' => w'.cell? ⟨b, 0, none⟩ = some (.string s) ∧ w'.cell? ⟨b, 1, none⟩ = some (.int .i64 (k : Int))) (first | exact ⟨c0, c1⟩ | exact ⟨Cur.c0 (Cur.setBr H.out true), Cur.c1 (Cur.setBr H.out true)⟩)
    (first | (go_at_call 66; (with_reducible refine (enough_f g n _ (by omega) _ (by exact Blk.drew G.out)).mono ?_); rintro e w' ⟨rfl, rfl⟩))
  clear ew
  go_wp2
  go_ret; exact ⟨rfl, only_drew (only_setCell (.refl _ _) rfl _), Cur.setBr H.out true⟩
end Go.Proofs.Ytbimdlcgjpeheaa
