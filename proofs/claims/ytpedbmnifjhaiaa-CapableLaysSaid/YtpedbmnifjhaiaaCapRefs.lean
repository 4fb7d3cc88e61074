/-
  The document's own answers of layer 9 (plaitref09): Size, May, Encode, each by its walk.
-/
import Derived.Test.YtpedbmnifjhaiaaCapEnc
import Derived.Test.YtpedbmnifjhaiaaNumRefs
import Derived.Deep.RegionHeld3
namespace Go.Proofs.Ytpedbmnifjhaiaa
open Go.ChangeShapes Go.WideShapes Go.ChangeAt Go.RowKit
set_option linter.unusedVariables false

theorem SizeR_any (f : Nat) (hf : f < 5) (w : World) :
    Calls Try.prog 23 #[.int .i64 (f : Int)] w fun e w' => e = .returned (.int .i64 (Cap.size (f : Int) : Nat)) ∧ w = w' := by
  have : f = 0 ∨ f = 1 ∨ f = 2 ∨ f = 3 ∨ f = 4 := by omega
  rcases this with rfl | rfl | rfl | rfl | rfl
  all_goals
    go_enter Try.func23, Try.ntmps23
    go_wp2
    go_ret; exact ⟨ret_int (by decide), rfl⟩
theorem SizeR_at (f : Nat) (hf : f < 5) (F : Int) (hF : F = (f : Int)) (w : World) :
    Calls Try.prog 23 #[.int .i64 F] w fun e w' => e = .returned (.int .i64 (Cap.size (f : Int) : Nat)) ∧ w = w' := by subst hF; exact SizeR_any f hf w

set_option maxHeartbeats 4000000 in
set_option maxRecDepth 100000 in
theorem MayR_any (x : Cap) (w : World) :
    Calls Try.prog 21 #[.agg (capv x)] w fun e w' => e = .returned (.bool (decide x.May)) ∧ Below w.heap.size w w' := by
  obtain ⟨form, ver, sums, alone, own, peer, len, sum⟩ := x
  obtain ⟨M, hM⟩ : ∃ M, M = decide (Cap.May ⟨form, ver, sums, alone, own, peer, len, sum⟩) := ⟨_, rfl⟩
  rw [← hM]
  have HM := Lib.hid hM
  clear hM
  by_cases h0 : form < 0
  ·
    go_enter Try.func21, Try.ntmps21
    go_wp2
    go_ret; exact ⟨ret_bool (by rw [HM.out]; exact (decide_eq_false (fun h => by obtain ⟨⟨a0, a1⟩, ⟨a2, a3⟩, ⟨a4, a5⟩, a6, a7, a8, a9⟩ := h; simp only [] at *; omega)).symm), (Below.refl _ w).alloc (Nat.le_refl _) _⟩
  replace h0 : 0 ≤ form := by omega
  by_cases h1 : 5 ≤ form
  ·
    go_enter Try.func21, Try.ntmps21
    go_wp2
    go_ret; exact ⟨ret_bool (by rw [HM.out]; exact (decide_eq_false (fun h => by obtain ⟨⟨a0, a1⟩, ⟨a2, a3⟩, ⟨a4, a5⟩, a6, a7, a8, a9⟩ := h; simp only [] at *; omega)).symm), (Below.refl _ w).alloc (Nat.le_refl _) _⟩
  replace h1 : form < 5 := by omega
  by_cases h2 : ver < 0
  ·
    go_enter Try.func21, Try.ntmps21
    go_wp2
    go_ret; exact ⟨ret_bool (by rw [HM.out]; exact (decide_eq_false (fun h => by obtain ⟨⟨a0, a1⟩, ⟨a2, a3⟩, ⟨a4, a5⟩, a6, a7, a8, a9⟩ := h; simp only [] at *; omega)).symm), (Below.refl _ w).alloc (Nat.le_refl _) _⟩
  replace h2 : 0 ≤ ver := by omega
  by_cases h3 : 15 < ver
  ·
    go_enter Try.func21, Try.ntmps21
    go_wp2
    go_ret; exact ⟨ret_bool (by rw [HM.out]; exact (decide_eq_false (fun h => by obtain ⟨⟨a0, a1⟩, ⟨a2, a3⟩, ⟨a4, a5⟩, a6, a7, a8, a9⟩ := h; simp only [] at *; omega)).symm), (Below.refl _ w).alloc (Nat.le_refl _) _⟩
  replace h3 : ver ≤ 15 := by omega
  by_cases h4 : len < 0
  ·
    go_enter Try.func21, Try.ntmps21
    go_wp2
    go_ret; exact ⟨ret_bool (by rw [HM.out]; exact (decide_eq_false (fun h => by obtain ⟨⟨a0, a1⟩, ⟨a2, a3⟩, ⟨a4, a5⟩, a6, a7, a8, a9⟩ := h; simp only [] at *; omega)).symm), (Below.refl _ w).alloc (Nat.le_refl _) _⟩
  replace h4 : 0 ≤ len := by omega
  by_cases h5 : 65535 < len
  ·
    go_enter Try.func21, Try.ntmps21
    go_wp2
    go_ret; exact ⟨ret_bool (by rw [HM.out]; exact (decide_eq_false (fun h => by obtain ⟨⟨a0, a1⟩, ⟨a2, a3⟩, ⟨a4, a5⟩, a6, a7, a8, a9⟩ := h; simp only [] at *; omega)).symm), (Below.refl _ w).alloc (Nat.le_refl _) _⟩
  replace h5 : len ≤ 65535 := by omega
  have cs : form = 0 ∨ form = 1 ∨ form = 2 ∨ form = 3 ∨ form = 4 := by omega
  clear h0 h1
  rcases cs with rfl | rfl | rfl | rfl | rfl
  · by_cases e0 : ¬ (own = 0)
    · have g0 : ((own : Int) == 0) = false := by rw [beq_eq_false_iff_ne]; omega
      go_enter Try.func21, Try.ntmps21
      go_wp2
      go_ret; exact ⟨ret_bool (by rw [HM.out]; exact (decide_eq_false (fun h => by obtain ⟨⟨a0, a1⟩, ⟨a2, a3⟩, ⟨a4, a5⟩, a6, a7, a8, a9⟩ := h; simp only [] at *; omega)).symm), (Below.refl _ w).alloc (Nat.le_refl _) _⟩
    replace e0 : own = 0 := by omega
    have g0 : ((own : Int) == 0) = true := by rw [e0]; rfl
    by_cases e1 : ¬ (peer = 0)
    · have g1 : ((peer : Int) == 0) = false := by rw [beq_eq_false_iff_ne]; omega
      go_enter Try.func21, Try.ntmps21
      go_wp2
      go_ret; exact ⟨ret_bool (by rw [HM.out]; exact (decide_eq_false (fun h => by obtain ⟨⟨a0, a1⟩, ⟨a2, a3⟩, ⟨a4, a5⟩, a6, a7, a8, a9⟩ := h; simp only [] at *; omega)).symm), (Below.refl _ w).alloc (Nat.le_refl _) _⟩
    replace e1 : peer = 0 := by omega
    have g1 : ((peer : Int) == 0) = true := by rw [e1]; rfl
    by_cases e2 : ¬ (len = 0)
    · have g2 : (len == 0) = false := by rw [beq_eq_false_iff_ne]; omega
      go_enter Try.func21, Try.ntmps21
      go_wp2
      go_ret; exact ⟨ret_bool (by rw [HM.out]; exact (decide_eq_false (fun h => by obtain ⟨⟨a0, a1⟩, ⟨a2, a3⟩, ⟨a4, a5⟩, a6, a7, a8, a9⟩ := h; simp only [] at *; omega)).symm), (Below.refl _ w).alloc (Nat.le_refl _) _⟩
    replace e2 : len = 0 := by omega
    have g2 : (len == 0) = true := by rw [e2]; rfl
    by_cases e3 : ¬ (sum = 0)
    · have g3 : ((sum : Int) == 0) = false := by rw [beq_eq_false_iff_ne]; omega
      go_enter Try.func21, Try.ntmps21
      go_wp2
      go_ret; exact ⟨ret_bool (by rw [HM.out]; exact (decide_eq_false (fun h => by obtain ⟨⟨a0, a1⟩, ⟨a2, a3⟩, ⟨a4, a5⟩, a6, a7, a8, a9⟩ := h; simp only [] at *; omega)).symm), (Below.refl _ w).alloc (Nat.le_refl _) _⟩
    replace e3 : sum = 0 := by omega
    have g3 : ((sum : Int) == 0) = true := by rw [e3]; rfl
    go_enter Try.func21, Try.ntmps21
    go_wp2
    go_ret; exact ⟨ret_bool (by rw [HM.out]; exact (decide_eq_true ⟨⟨by simp only []; omega, by simp only []; omega⟩, ⟨by simp only []; omega, by simp only []; omega⟩, ⟨by simp only []; omega, by simp only []; omega⟩, by simp only []; omega, by simp only []; omega, by simp only []; omega, by simp only []; omega⟩).symm), (Below.refl _ w).alloc (Nat.le_refl _) _⟩
  · by_cases e0 : ¬ (peer = 0)
    · have g0 : ((peer : Int) == 0) = false := by rw [beq_eq_false_iff_ne]; omega
      go_enter Try.func21, Try.ntmps21
      go_wp2
      go_ret; exact ⟨ret_bool (by rw [HM.out]; exact (decide_eq_false (fun h => by obtain ⟨⟨a0, a1⟩, ⟨a2, a3⟩, ⟨a4, a5⟩, a6, a7, a8, a9⟩ := h; simp only [] at *; omega)).symm), (Below.refl _ w).alloc (Nat.le_refl _) _⟩
    replace e0 : peer = 0 := by omega
    have g0 : ((peer : Int) == 0) = true := by rw [e0]; rfl
    by_cases e1 : ¬ (len = 0)
    · have g1 : (len == 0) = false := by rw [beq_eq_false_iff_ne]; omega
      go_enter Try.func21, Try.ntmps21
      go_wp2
      go_ret; exact ⟨ret_bool (by rw [HM.out]; exact (decide_eq_false (fun h => by obtain ⟨⟨a0, a1⟩, ⟨a2, a3⟩, ⟨a4, a5⟩, a6, a7, a8, a9⟩ := h; simp only [] at *; omega)).symm), (Below.refl _ w).alloc (Nat.le_refl _) _⟩
    replace e1 : len = 0 := by omega
    have g1 : (len == 0) = true := by rw [e1]; rfl
    by_cases e2 : ¬ (sum = 0)
    · have g2 : ((sum : Int) == 0) = false := by rw [beq_eq_false_iff_ne]; omega
      go_enter Try.func21, Try.ntmps21
      go_wp2
      go_ret; exact ⟨ret_bool (by rw [HM.out]; exact (decide_eq_false (fun h => by obtain ⟨⟨a0, a1⟩, ⟨a2, a3⟩, ⟨a4, a5⟩, a6, a7, a8, a9⟩ := h; simp only [] at *; omega)).symm), (Below.refl _ w).alloc (Nat.le_refl _) _⟩
    replace e2 : sum = 0 := by omega
    have g2 : ((sum : Int) == 0) = true := by rw [e2]; rfl
    go_enter Try.func21, Try.ntmps21
    go_wp2
    go_ret; exact ⟨ret_bool (by rw [HM.out]; exact (decide_eq_true ⟨⟨by simp only []; omega, by simp only []; omega⟩, ⟨by simp only []; omega, by simp only []; omega⟩, ⟨by simp only []; omega, by simp only []; omega⟩, by simp only []; omega, by simp only []; omega, by simp only []; omega, by simp only []; omega⟩).symm), (Below.refl _ w).alloc (Nat.le_refl _) _⟩
  · by_cases e0 : ¬ (len = 0)
    · have g0 : (len == 0) = false := by rw [beq_eq_false_iff_ne]; omega
      go_enter Try.func21, Try.ntmps21
      go_wp2
      go_ret; exact ⟨ret_bool (by rw [HM.out]; exact (decide_eq_false (fun h => by obtain ⟨⟨a0, a1⟩, ⟨a2, a3⟩, ⟨a4, a5⟩, a6, a7, a8, a9⟩ := h; simp only [] at *; omega)).symm), (Below.refl _ w).alloc (Nat.le_refl _) _⟩
    replace e0 : len = 0 := by omega
    have g0 : (len == 0) = true := by rw [e0]; rfl
    by_cases e1 : ¬ (sum = 0)
    · have g1 : ((sum : Int) == 0) = false := by rw [beq_eq_false_iff_ne]; omega
      go_enter Try.func21, Try.ntmps21
      go_wp2
      go_ret; exact ⟨ret_bool (by rw [HM.out]; exact (decide_eq_false (fun h => by obtain ⟨⟨a0, a1⟩, ⟨a2, a3⟩, ⟨a4, a5⟩, a6, a7, a8, a9⟩ := h; simp only [] at *; omega)).symm), (Below.refl _ w).alloc (Nat.le_refl _) _⟩
    replace e1 : sum = 0 := by omega
    have g1 : ((sum : Int) == 0) = true := by rw [e1]; rfl
    go_enter Try.func21, Try.ntmps21
    go_wp2
    go_ret; exact ⟨ret_bool (by rw [HM.out]; exact (decide_eq_true ⟨⟨by simp only []; omega, by simp only []; omega⟩, ⟨by simp only []; omega, by simp only []; omega⟩, ⟨by simp only []; omega, by simp only []; omega⟩, by simp only []; omega, by simp only []; omega, by simp only []; omega, by simp only []; omega⟩).symm), (Below.refl _ w).alloc (Nat.le_refl _) _⟩
  · by_cases e0 : ¬ (sum = 0)
    · have g0 : ((sum : Int) == 0) = false := by rw [beq_eq_false_iff_ne]; omega
      go_enter Try.func21, Try.ntmps21
      go_wp2
      go_ret; exact ⟨ret_bool (by rw [HM.out]; exact (decide_eq_false (fun h => by obtain ⟨⟨a0, a1⟩, ⟨a2, a3⟩, ⟨a4, a5⟩, a6, a7, a8, a9⟩ := h; simp only [] at *; omega)).symm), (Below.refl _ w).alloc (Nat.le_refl _) _⟩
    replace e0 : sum = 0 := by omega
    have g0 : ((sum : Int) == 0) = true := by rw [e0]; rfl
    go_enter Try.func21, Try.ntmps21
    go_wp2
    go_ret; exact ⟨ret_bool (by rw [HM.out]; exact (decide_eq_true ⟨⟨by simp only []; omega, by simp only []; omega⟩, ⟨by simp only []; omega, by simp only []; omega⟩, ⟨by simp only []; omega, by simp only []; omega⟩, by simp only []; omega, by simp only []; omega, by simp only []; omega, by simp only []; omega⟩).symm), (Below.refl _ w).alloc (Nat.le_refl _) _⟩
  · go_enter Try.func21, Try.ntmps21
    go_wp2
    go_ret; exact ⟨ret_bool (by rw [HM.out]; exact (decide_eq_true ⟨⟨by simp only []; omega, by simp only []; omega⟩, ⟨by simp only []; omega, by simp only []; omega⟩, ⟨by simp only []; omega, by simp only []; omega⟩, by simp only []; omega, by simp only []; omega, by simp only []; omega, by simp only []; omega⟩).symm), (Below.refl _ w).alloc (Nat.le_refl _) _⟩
end Go.Proofs.Ytpedbmnifjhaiaa
