/-
  SeqOrder returns true for all numbers. No conditions.
-/
import Derived.Deep.QuietTactic
import Derived.BigQuiet
import Derived.WalkSmall
import Derived.Laws.IdiomArrays
import Derived.Lib.SmallJoins
import Derived.Test.YtffbokidmjokmaaSeqWorks
import Derived.WalkKit
import Derived.ProofKit
import Derived.OpenShut
import Derived.ShutString
import Derived.ChangeOld
import Derived.Below
namespace Go.Proofs.Ytffbokidmjokmaa.seqOrder
open Go.ChangeShapes Go.WideShapes Go.ChangeAt Go.RowKit
open Go.ChangeMaps (open_string shut_string)
set_option linter.unusedVariables false

/-- A callee that leaves the world alone, at a call in a region that only reads. -/
theorem qs {P : Program} {f : FuncId} {args : Array Value} {w : World} {n : Nat} {v : Value}
    (h : Calls P f args (w.drewN n) fun e w' => e = .returned v ∧ w.drewN n = w') : Calls P f args (w.drewN n) fun e w'' => e = .returned v ∧ ∃ m, w'' = w.drewN m :=
  Calls.quiet_of_same (h.mono fun _ _ x => ⟨x.1, x.2.symm⟩)

def Answers (f : Nat) (args : Array Value) (v : Value) : Prop := ∀ w : World, Calls Try.prog f args w fun e w' => e = .returned v ∧ w = w'
theorem Answers.say {f : Nat} {args : Array Value} {v : Value} (h : Answers f args v) (w : World) : Calls Try.prog f args w fun e w' => e = .returned v ∧ w = w' := h w

/-- What lies in memory when a round begins: the three that came (in block A), the numbers (in block B), and how far each is (in the block behind it). -/
def St (w0 : World) (A B : Nat) (f0 f1 f2 : Int) (w : World) (x0 x1 x2 n0 n1 n2 : Int) : Prop :=
  Below w0.heap.size w0 w ∧
  (w.cell? ⟨A, 0, none⟩ = some (.int .u32 f0) ∧ w.cell? ⟨A, 1, none⟩ = some (.int .u32 f1) ∧ w.cell? ⟨A, 2, none⟩ = some (.int .u32 f2)) ∧
  (w.cell? ⟨B, 0, none⟩ = some (.int .u32 x0) ∧ w.cell? ⟨B, 1, none⟩ = some (.int .u32 x1) ∧ w.cell? ⟨B, 2, none⟩ = some (.int .u32 x2)) ∧
  (w.cell? ⟨B + 1, 0, none⟩ = some (.int .i64 n0) ∧ w.cell? ⟨B + 1, 1, none⟩ = some (.int .i64 n1) ∧ w.cell? ⟨B + 1, 2, none⟩ = some (.int .i64 n2)) ∧
  (w.frozen? ⟨B, 0, none⟩ = false ∧ w.frozen? ⟨B, 1, none⟩ = false ∧ w.frozen? ⟨B, 2, none⟩ = false) ∧
  (w.frozen? ⟨B + 1, 0, none⟩ = false ∧ w.frozen? ⟨B + 1, 1, none⟩ = false ∧ w.frozen? ⟨B + 1, 2, none⟩ = false)

/-- The three numbers, as they lie in block B. -/
def Cells (B : Nat) (w : World) (x0 x1 x2 : Int) : Prop := w.cell? ⟨B, 0, none⟩ = some (.int .u32 x0) ∧ w.cell? ⟨B, 1, none⟩ = some (.int .u32 x1) ∧ w.cell? ⟨B, 2, none⟩ = some (.int .u32 x2)

/-- Each of the three lies so far behind a as is said beside it. -/
def St2 (w0 : World) (a : Int) (B : Nat) (w : World) : Prop :=
  Below w0.heap.size w0 w ∧ ∀ i : Nat, i < 3 → ∃ x n : Int, w.cell? ⟨B, i, none⟩ = some (.int .u32 x) ∧ w.cell? ⟨B + 1, i, none⟩ = some (.int .i64 n) ∧ (0 ≤ n ∧ n ≤ 2147483647) ∧ (a + n) % 4294967296 = x

theorem at_three {a : Int} {B : Nat} {w : World} {x0 x1 x2 n0 n1 n2 : Int} (n00 : 0 ≤ n0) (n01 : n0 ≤ 2147483647) (n10 : 0 ≤ n1) (n11 : n1 ≤ 2147483647) (n20 : 0 ≤ n2) (n21 : n2 ≤ 2147483647)
    (p0 : (a + n0) % 4294967296 = x0) (p1 : (a + n1) % 4294967296 = x1) (p2 : (a + n2) % 4294967296 = x2)
    (X0 : w.cell? ⟨B, 0, none⟩ = some (.int .u32 x0)) (X1 : w.cell? ⟨B, 1, none⟩ = some (.int .u32 x1)) (X2 : w.cell? ⟨B, 2, none⟩ = some (.int .u32 x2))
    (N0 : w.cell? ⟨B + 1, 0, none⟩ = some (.int .i64 n0)) (N1 : w.cell? ⟨B + 1, 1, none⟩ = some (.int .i64 n1)) (N2 : w.cell? ⟨B + 1, 2, none⟩ = some (.int .i64 n2)) :
    ∀ i : Nat, i < 3 → ∃ x n : Int, w.cell? ⟨B, i, none⟩ = some (.int .u32 x) ∧ w.cell? ⟨B + 1, i, none⟩ = some (.int .i64 n) ∧ (0 ≤ n ∧ n ≤ 2147483647) ∧ (a + n) % 4294967296 = x := by
  intro i hi
  obtain rfl | rfl | rfl : i = 0 ∨ i = 1 ∨ i = 2 := by omega
  · exact ⟨x0, n0, X0, N0, ⟨n00, n01⟩, p0⟩
  · exact ⟨x1, n1, X1, N1, ⟨n10, n11⟩, p1⟩
  · exact ⟨x2, n2, X2, N2, ⟨n20, n21⟩, p2⟩

theorem before_at (a n m x y : Int) (a0 : 0 ≤ a) (a1 : a ≤ 4294967295) (hn : 0 ≤ n ∧ n ≤ 2147483647) (hm : 0 ≤ m ∧ m ≤ 2147483647) (hx : (a + n) % 4294967296 = x) (hy : (a + m) % 4294967296 = y) :
    Answers 10 #[.int .u32 x, .int .u32 y] (.bool (decide (n < m))) := fun w => by
  by_cases c : n < m
  · rw [decide_eq_true c]
    exact Before_t x y (m - n) (by omega) (by omega) (by omega) (by omega) (by omega) (by omega) (by omega) w
  · rw [decide_eq_false c]
    exact Before_f x y (m - n) (by omega) (by omega) (by omega) (by omega) (by omega) (by omega) (by omega) w
theorem gap_at (a n m x y : Int) (a0 : 0 ≤ a) (a1 : a ≤ 4294967295) (hn : 0 ≤ n ∧ n ≤ 2147483647) (hm : 0 ≤ m ∧ m ≤ 2147483647) (hx : (a + n) % 4294967296 = x) (hy : (a + m) % 4294967296 = y) :
    Answers 12 #[.int .u32 x, .int .u32 y] (.int .i64 (m - n)) := fun w =>
  Gap_any x y (m - n) (by omega) (by omega) (by omega) (by omega) (by omega) (by omega) (by omega) w

set_option maxRecDepth 100000 in
set_option maxHeartbeats 4000000 in
theorem walk (a : Int) (wa : (Lit.int .u32 a).wf = true) (f0 f1 f2 : Int) (wf0 : (Lit.int .u32 f0).wf = true) (wf1 : (Lit.int .u32 f1).wf = true) (wf2 : (Lit.int .u32 f2).wf = true) (w : World) :
    Calls Try.prog 5 #[.int .u32 a, .agg #[.int .u32 f0, .int .u32 f1, .int .u32 f2]] w fun e w' => e = .returned (.bool true) ∧ Below w.heap.size w w' := by
  obtain ⟨a0, a1⟩ := bounds_u32 wa
  obtain ⟨f00, f01⟩ := bounds_u32 wf0
  obtain ⟨f10, f11⟩ := bounds_u32 wf1
  obtain ⟨f20, f21⟩ := bounds_u32 wf2
  clear wa wf0 wf1 wf2
  obtain ⟨n0, e0⟩ : ∃ x, f0 % 2147483648 = x := ⟨_, rfl⟩
  obtain ⟨n1, e1⟩ : ∃ x, f1 % 2147483648 = x := ⟨_, rfl⟩
  obtain ⟨n2, e2⟩ : ∃ x, f2 % 2147483648 = x := ⟨_, rfl⟩
  obtain ⟨n00, n01⟩ : 0 ≤ n0 ∧ n0 ≤ 2147483647 := by omega
  obtain ⟨n10, n11⟩ : 0 ≤ n1 ∧ n1 ≤ 2147483647 := by omega
  obtain ⟨n20, n21⟩ : 0 ≤ n2 ∧ n2 ≤ 2147483647 := by omega
  obtain ⟨x0, p0⟩ : ∃ x, (a + n0) % 4294967296 = x := ⟨_, rfl⟩
  obtain ⟨x1, p1⟩ : ∃ x, (a + n1) % 4294967296 = x := ⟨_, rfl⟩
  obtain ⟨x2, p2⟩ : ∃ x, (a + n2) % 4294967296 = x := ⟨_, rfl⟩
  obtain ⟨x00, x01⟩ : 0 ≤ x0 ∧ x0 ≤ 4294967295 := by omega
  obtain ⟨x10, x11⟩ : 0 ≤ x1 ∧ x1 ≤ 4294967295 := by omega
  obtain ⟨x20, x21⟩ : 0 ≤ x2 ∧ x2 ≤ 4294967295 := by omega
  have I0 := Lib.hid (show n0 = x0 - a ∨ n0 = x0 - a + 4294967296 by omega)
  have I1 := Lib.hid (show n1 = x1 - a ∨ n1 = x1 - a + 4294967296 by omega)
  have I2 := Lib.hid (show n2 = x2 - a ∨ n2 = x2 - a + 4294967296 by omega)
  have P0 := Lib.hid p0
  have P1 := Lib.hid p1
  have P2 := Lib.hid p2
  clear p0 p1 p2
  go_enter Try.func5, Try.ntmps5
  go_wp2_with (go_at_call 17; (with_reducible refine (works_true _).mono ?_); rintro e wk ⟨rfl, hk⟩)
  have hlt : w.heap.size < wk.heap.size := by have := hk.size; simp at this; omega
  have Q0 : wk.cell? ⟨w.heap.size, 0, none⟩ = some (.int .u32 f0) := (hk.cell (p := ⟨w.heap.size, 0, none⟩) (by simp)).trans (by simp [go_sem])
  have Q1 : wk.cell? ⟨w.heap.size, 1, none⟩ = some (.int .u32 f1) := (hk.cell (p := ⟨w.heap.size, 1, none⟩) (by simp)).trans (by simp [go_sem])
  have Q2 : wk.cell? ⟨w.heap.size, 2, none⟩ = some (.int .u32 f2) := (hk.cell (p := ⟨w.heap.size, 2, none⟩) (by simp)).trans (by simp [go_sem])
  have hBk : Below w.heap.size w wk := ((Below.refl _ w).alloc (Nat.le_refl _) _).trans (hk.mono (by simp))
  go_loopw [7] (fun i wr => (i = .int .i64 0 ∧ St w w.heap.size wk.heap.size f0 f1 f2 wr 0 0 0 0 0 0) ∨ (i = .int .i64 1 ∧ St w w.heap.size wk.heap.size f0 f1 f2 wr x0 0 0 n0 0 0) ∨ (i = .int .i64 2 ∧ St w w.heap.size wk.heap.size f0 f1 f2 wr x0 x1 0 n0 n1 0) ∨ (i = .int .i64 3 ∧ St w w.heap.size wk.heap.size f0 f1 f2 wr x0 x1 x2 n0 n1 n2)) (fun i _ => 3 - (intOf i).toNat)
  case atStart =>
    refine .inl ⟨rfl, (hBk.alloc hBk.size _).alloc (by simp; omega) _, ⟨?_, ?_, ?_⟩, ⟨by simp [go_sem], by simp [go_sem], by simp [go_sem]⟩, ⟨by simp [go_sem], by simp [go_sem], by simp [go_sem]⟩, ⟨by simp [go_sem], by simp [go_sem], by simp [go_sem]⟩, ⟨by simp [go_sem], by simp [go_sem], by simp [go_sem]⟩⟩
    · exact (((Below.refl wk.heap.size wk).alloc (Nat.le_refl _) _).alloc (by simp) _).cell (p := ⟨w.heap.size, 0, none⟩) hlt |>.trans Q0
    · exact (((Below.refl wk.heap.size wk).alloc (Nat.le_refl _) _).alloc (by simp) _).cell (p := ⟨w.heap.size, 1, none⟩) hlt |>.trans Q1
    · exact (((Below.refl wk.heap.size wk).alloc (Nat.le_refl _) _).alloc (by simp) _).cell (p := ⟨w.heap.size, 2, none⟩) hlt |>.trans Q2
  case round =>
    clear Q0 Q1 Q2 hBk
    rcases hrel with ⟨rfl, hS⟩ | ⟨rfl, hS⟩ | ⟨rfl, hS⟩ | ⟨rfl, hS⟩
    · obtain ⟨hB, ⟨F0, F1, F2⟩, ⟨X0, X1, X2⟩, ⟨N0, N1, N2⟩, ⟨fX0, fX1, fX2⟩, ⟨fN0, fN1, fN2⟩⟩ := hS
      go_wp2_with (first
        | (go_at_call 16; (with_reducible refine (Plus_any a n0 x0 P0.out _).mono ?_); rintro e w' ⟨rfl, rfl⟩)
        | (go_at_call 14; (with_reducible refine (In_t x0 a 2147483648 n0 a0 a1 (by omega) (by omega) I0.out (by omega) (by omega) (by omega) _).mono ?_); rintro e w' ⟨rfl, rfl⟩))
      go_roundw
      case rel =>
        refine .inr (.inl ⟨rfl, ?_⟩)
        have far : ∀ o, ((wr.setCell ⟨wk.heap.size + 1, 0, none⟩ (.int .i64 n0)).setCell ⟨wk.heap.size, 0, none⟩ (.int .u32 x0)).cell? ⟨w.heap.size, o, none⟩ = wr.cell? ⟨w.heap.size, o, none⟩ := fun o => (((Below.refl wk.heap.size wr).setCell (p := ⟨wk.heap.size + 1, 0, none⟩) (by simp) _).setCell (p := ⟨wk.heap.size, 0, none⟩) (Nat.le_refl _) _).cell (p := ⟨w.heap.size, o, none⟩) hlt
        exact ⟨(hB.setCell (p := ⟨wk.heap.size + 1, 0, none⟩) (by simp; omega) _).setCell (p := ⟨wk.heap.size, 0, none⟩) (by simp; omega) _, ⟨(far 0).trans F0, (far 1).trans F1, (far 2).trans F2⟩, ⟨by simp [go_sem, X0], by simp [go_sem, X1], by simp [go_sem, X2]⟩, ⟨by simp [go_sem, N0], by simp [go_sem, N1], by simp [go_sem, N2]⟩, ⟨by simp [go_sem, fX0], by simp [go_sem, fX1], by simp [go_sem, fX2]⟩, ⟨by simp [go_sem, fN0], by simp [go_sem, fN1], by simp [go_sem, fN2]⟩⟩
      case measure => simp [intOf]
    · obtain ⟨hB, ⟨F0, F1, F2⟩, ⟨X0, X1, X2⟩, ⟨N0, N1, N2⟩, ⟨fX0, fX1, fX2⟩, ⟨fN0, fN1, fN2⟩⟩ := hS
      go_wp2_with (first
        | (go_at_call 16; (with_reducible refine (Plus_any a n1 x1 P1.out _).mono ?_); rintro e w' ⟨rfl, rfl⟩)
        | (go_at_call 14; (with_reducible refine (In_t x1 a 2147483648 n1 a0 a1 (by omega) (by omega) I1.out (by omega) (by omega) (by omega) _).mono ?_); rintro e w' ⟨rfl, rfl⟩))
      go_roundw
      case rel =>
        refine .inr (.inr (.inl ⟨rfl, ?_⟩))
        have far : ∀ o, ((wr.setCell ⟨wk.heap.size + 1, 1, none⟩ (.int .i64 n1)).setCell ⟨wk.heap.size, 1, none⟩ (.int .u32 x1)).cell? ⟨w.heap.size, o, none⟩ = wr.cell? ⟨w.heap.size, o, none⟩ := fun o => (((Below.refl wk.heap.size wr).setCell (p := ⟨wk.heap.size + 1, 1, none⟩) (by simp) _).setCell (p := ⟨wk.heap.size, 1, none⟩) (Nat.le_refl _) _).cell (p := ⟨w.heap.size, o, none⟩) hlt
        exact ⟨(hB.setCell (p := ⟨wk.heap.size + 1, 1, none⟩) (by simp; omega) _).setCell (p := ⟨wk.heap.size, 1, none⟩) (by simp; omega) _, ⟨(far 0).trans F0, (far 1).trans F1, (far 2).trans F2⟩, ⟨by simp [go_sem, X0], by simp [go_sem, X1], by simp [go_sem, X2]⟩, ⟨by simp [go_sem, N0], by simp [go_sem, N1], by simp [go_sem, N2]⟩, ⟨by simp [go_sem, fX0], by simp [go_sem, fX1], by simp [go_sem, fX2]⟩, ⟨by simp [go_sem, fN0], by simp [go_sem, fN1], by simp [go_sem, fN2]⟩⟩
      case measure => simp [intOf]
    · obtain ⟨hB, ⟨F0, F1, F2⟩, ⟨X0, X1, X2⟩, ⟨N0, N1, N2⟩, ⟨fX0, fX1, fX2⟩, ⟨fN0, fN1, fN2⟩⟩ := hS
      go_wp2_with (first
        | (go_at_call 16; (with_reducible refine (Plus_any a n2 x2 P2.out _).mono ?_); rintro e w' ⟨rfl, rfl⟩)
        | (go_at_call 14; (with_reducible refine (In_t x2 a 2147483648 n2 a0 a1 (by omega) (by omega) I2.out (by omega) (by omega) (by omega) _).mono ?_); rintro e w' ⟨rfl, rfl⟩))
      go_roundw
      case rel =>
        refine .inr (.inr (.inr ⟨rfl, ?_⟩))
        have far : ∀ o, ((wr.setCell ⟨wk.heap.size + 1, 2, none⟩ (.int .i64 n2)).setCell ⟨wk.heap.size, 2, none⟩ (.int .u32 x2)).cell? ⟨w.heap.size, o, none⟩ = wr.cell? ⟨w.heap.size, o, none⟩ := fun o => (((Below.refl wk.heap.size wr).setCell (p := ⟨wk.heap.size + 1, 2, none⟩) (by simp) _).setCell (p := ⟨wk.heap.size, 2, none⟩) (Nat.le_refl _) _).cell (p := ⟨w.heap.size, o, none⟩) hlt
        exact ⟨(hB.setCell (p := ⟨wk.heap.size + 1, 2, none⟩) (by simp; omega) _).setCell (p := ⟨wk.heap.size, 2, none⟩) (by simp; omega) _, ⟨(far 0).trans F0, (far 1).trans F1, (far 2).trans F2⟩, ⟨by simp [go_sem, X0], by simp [go_sem, X1], by simp [go_sem, X2]⟩, ⟨by simp [go_sem, N0], by simp [go_sem, N1], by simp [go_sem, N2]⟩, ⟨by simp [go_sem, fX0], by simp [go_sem, fX1], by simp [go_sem, fX2]⟩, ⟨by simp [go_sem, fN0], by simp [go_sem, fN1], by simp [go_sem, fN2]⟩⟩
      case measure => simp [intOf]
    · obtain ⟨hB, -, ⟨X0, X1, X2⟩, ⟨N0, N1, N2⟩, -, -⟩ := hS
      have hS2 : St2 w a wk.heap.size wr := ⟨hB, at_three n00 n01 n10 n11 n20 n21 P0.out P1.out P2.out X0 X1 X2 N0 N1 N2⟩
      have B01 := Lib.hid (before_at a n0 n1 x0 x1 a0 a1 ⟨n00, n01⟩ ⟨n10, n11⟩ P0.out P1.out)
      have B12 := Lib.hid (before_at a n1 n2 x1 x2 a0 a1 ⟨n10, n11⟩ ⟨n20, n21⟩ P1.out P2.out)
      have B02 := Lib.hid (before_at a n0 n2 x0 x2 a0 a1 ⟨n00, n01⟩ ⟨n20, n21⟩ P0.out P2.out)
      have HS2 := Lib.hid hS2
      clear hS2 hB I0 I1 I2 P0 P1 P2
      obtain ⟨wo, ewo⟩ : ∃ wo : World, wo = wr := ⟨_, rfl⟩
      subst ewo
      go_wp2
      go_loopw [10] (fun i wr => ∃ k : Nat, k ≤ 3 ∧ i = .int .i64 k ∧ St2 w a wk.heap.size wr ∧ Cells wk.heap.size wr x0 x1 x2) (fun i _ => 3 - (intOf i).toNat)
      case atStart => exact ⟨0, by omega, rfl, HS2.out, X0, X1, X2⟩
      case round =>
        clear HS2 X0 X1 X2 N0 N1 N2
        obtain ⟨i, hi, rfl, hS, hC⟩ := hrel
        have HS := Lib.hid hS
        have HC := Lib.hid hC
        clear hS hC
        by_cases hi3 : i < 3
        · clear B01 B12 B02
          go_wp2
          go_loopw [11] (fun j wr => ∃ k : Nat, k ≤ 3 ∧ j = .int .i64 k ∧ St2 w a wk.heap.size wr ∧ Cells wk.heap.size wr x0 x1 x2) (fun j _ => 3 - (intOf j).toNat)
          case atStart => exact ⟨0, by omega, rfl, HS.out, HC.out⟩
          case round =>
            clear HS HC
            obtain ⟨j, hj, rfl, hS, hC⟩ := hrel
            by_cases hj3 : j < 3
            · obtain ⟨xi, ni, ci, di, bi, ei⟩ := hS.2 i hi3
              obtain ⟨xj, nj, cj, dj, bj, ej⟩ := hS.2 j hj3
              have HB := Lib.hid (before_at a ni nj xi xj a0 a1 bi bj ei ej)
              have HG := Lib.hid (gap_at a ni nj xi xj a0 a1 bi bj ei ej)
              have HS := Lib.hid hS
              have HC := Lib.hid hC
              obtain ⟨bi0, bi1⟩ := bi
              obtain ⟨bj0, bj1⟩ := bj
              clear hS hC ei ej
              go_wp2
              go_quiet (first
                | (go_at_call 10; exact qs (HB.out _))
                | (go_at_call 12; exact qs (HG.out _)))
              go_wp2
              go_roundw
              case rel => exact ⟨j + 1, by omega, by go_num, ⟨below_drewN HS.out.1 _, HS.out.2⟩, HC.out⟩
              case measure => simp [intOf]; omega
            · obtain rfl : j = 3 := by omega
              have HS := Lib.hid hS
              have HC := Lib.hid hC
              clear hS hC
              go_wp2
              go_roundw
              case rel => exact ⟨i + 1, by omega, by go_num, HS.out, HC.out⟩
              case measure => simp [intOf]; omega
        · obtain rfl : i = 3 := by omega
          obtain ⟨X0, X1, X2⟩ := HC.out
          clear HC
          have key : n0 < n1 → n1 < n2 → n0 < n2 := by omega
          generalize hv01 : decide (n0 < n1) = v01 at B01
          generalize hv12 : decide (n1 < n2) = v12 at B12
          generalize hv02 : decide (n0 < n2) = v02 at B02
          have K := Lib.hid (show v01 = true → v12 = true → v02 = true by rw [← hv01, ← hv12, ← hv02]; simpa using key)
          clear hv01 hv12 hv02 key
          cases v01 <;> cases v12 <;> cases v02
          all_goals
            first
            | exact absurd (K.out rfl rfl) (by decide)
            | (clear K
               go_wp2_with (first
                 | (go_at_call 10; (with_reducible refine (B01.out.say _).mono ?_); rintro e w' ⟨rfl, rfl⟩)
                 | (go_at_call 10; (with_reducible refine (B12.out.say _).mono ?_); rintro e w' ⟨rfl, rfl⟩)
                 | (go_at_call 10; (with_reducible refine (B02.out.say _).mono ?_); rintro e w' ⟨rfl, rfl⟩))
               go_ret
               exact ⟨rfl, HS.out.1⟩)

theorem own : ownKnob Try.prog.godebug = none := by kernel_rfl
theorem laidOut : laidOutB Try.prog = true := by kernel_rfl

set_option maxRecDepth 100000 in
theorem lifted (os : Os) (started : os.Started) (H : Type) (enc : TypeId × Value → H) :
    ReturnsInHanded {} Try.checked os 5 .any (Rows.seqOrderSpec.pre6 enc Try.prog Try.f5 Rows.seqOrderRow.domain false) (Rows.seqOrderSpec.post enc Try.prog Try.f5 false true false false) := by
  refine returnsInHanded_of_change (C := Try.checked) own started (by kernel_rfl) Try.func5
    (ChangeSpec.witness6 (enc := enc) (C := Try.checked) false ⟨#[], #[.int .u32 0, .agg #[.int .u32 0, .int .u32 0, .int .u32 0]], []⟩ 8 (by kernel_rfl) (by kernel_rfl) (by kernel_rfl) (by kernel_rfl)) ?_
  intro W base args ds gs before hval0 hW hcnd _
  have hval : ∀ (j : Nat) t v, Try.f5.params[j]? = some t → args[j]? = some v → Value.okWide Try.prog W .any base t v := hval0
  have hW' := hW
  obtain ⟨p, q, hA0, hV, rfl, hfz, hnd⟩ := hW
  have hA : DataW.TrodAll enc Try.prog W 0 (fun _ => true) true Try.f5.params.toList args.toList ds p := hA0
  rw [Try.params5] at hA hval
  obtain ⟨v0, vs0, d0, ds0, p0, q0, hargs, rfl, rfl, h0, r0⟩ := trodAll_cons hA
  obtain ⟨v1, vs1, d1, ds1, p1, q1, rfl, rfl, rfl, h1, r1⟩ := trodAll_cons r0
  obtain ⟨rfl, rfl, rfl⟩ := trodAll_nil r1
  obtain rfl : args = #[v0, v1] := by cases args; simp_all
  obtain ⟨rfl, rfl⟩ := trodVars_none hV
  obtain ⟨a0, rfl, rfl, rfl, w0⟩ := open_int Try.underlying22 (hval 0 22 v0 rfl rfl) h0
  have k1 := h1
  have lt1 : ∀ x ∈ p1, x.block < W.heap.size := by obtain ⟨m, hm⟩ := k1; exact DataW.trod_lt m _ _ _ hm
  obtain ⟨f0, f1, f2, rfl, wf0, wf1, wf2⟩ : ∃ f0 f1 f2 : Int, v1 = .agg #[.int .u32 f0, .int .u32 f1, .int .u32 f2] ∧ (Lit.int .u32 f0).wf = true ∧ (Lit.int .u32 f1).wf = true ∧ (Lit.int .u32 f2).wf = true := by
    have hv := hval 1 34 v1 rfl rfl
    simp only [Value.okWide, Try.underlying34] at hv
    obtain ⟨cs, rfl, hsz, _⟩ := hv
    obtain ⟨c0, c1, c2, rfl⟩ := Go.Joins.array3 (hsz.trans (by kernel_rfl : Try.prog.cellsOf 34 = 3))
    obtain ⟨fuel, hf⟩ := h1
    obtain ⟨y0, y1, y2, m, _, hy0, hy1, hy2⟩ := trod_array3 Try.underlying34 (by kernel_rfl) hf
    obtain ⟨z0, e0, _, hw0⟩ := DataW.trod_int Try.underlying22 hy0
    obtain ⟨z1, e1, _, hw1⟩ := DataW.trod_int Try.underlying22 hy1
    obtain ⟨z2, e2, _, hw2⟩ := DataW.trod_int Try.underlying22 hy2
    simp at e0 e1 e2
    subst e0 e1 e2
    exact ⟨z0, z1, z2, rfl, hw0, hw1, hw2⟩
  clear hA0 hval0
  simp only [List.append_nil] at hW'
  refine (walk a0 w0 f0 f1 f2 wf0 wf1 wf2 W).mono fun e W' ⟨he, bel⟩ => ?_
  subst he
  exact ⟨_, rfl, _, _, _, [], _, [], hW', trodAll_mk1 (shut_bool Try.underlying4 _), (trodAll_cons_mk (shut_int Try.underlying22 w0) (trodAll_cons_mk (Below.trod laidOut (by kernel_rfl) (of_decide_eq_true (by kernel_rfl)) k1 bel lt1) trodAll_mk0)), rfl, bel.frame _, fun h => by cases h⟩

theorem over : Rows.seqOrderRow.holds Try.pinned (OpenSpec.ofChange Rows.seqOrderSpec) :=
  OpenClaim.holds_of_wide 5 Try.f5 rfl rfl rfl rfl rfl rfl rfl ⟨rfl, rfl, rfl, rfl, rfl⟩ rfl rfl rfl rfl rfl (by kernel_rfl) Try.func5 (by kernel_rfl)
    (of_decide_eq_true (by kernel_rfl)) (by unfold Func.isWrapper; first | (rw [if_pos (by decide +kernel)]; kernel_rfl) | (rw [if_neg (by decide +kernel)]; exact ⟨rfl, rfl⟩))
    (fun os started H enc _ => lifted os started H enc)

theorem proved : Rows.SeqOrderSaid := over
#print axioms proved
end Go.Proofs.Ytffbokidmjokmaa.seqOrder
