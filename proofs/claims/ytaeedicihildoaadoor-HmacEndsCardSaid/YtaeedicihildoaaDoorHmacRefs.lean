/-
  The document's own Left and Right (plaitref07), by their walks.
-/
import Derived.Test.YtaeedicihildoaaDoorHmacSmall
namespace Go.Proofs.YtaeedicihildoaaDoor
open Go.ChangeShapes Go.WideShapes Go.ChangeAt Go.RowKit
set_option linter.unusedVariables false

theorem held_num (n : Int) (h0 : -9223372036854775808 ≤ n) (h1 : n ≤ 9223372036854775807) : ∃ p : Int, (if (32 : Int) < n then (32 : Int) else n) = p ∧ (if (0 : Int) < p then p else (0 : Int)) = ((cl n : Nat) : Int) := by
  refine ⟨_, rfl, ?_⟩
  unfold cl
  (repeat' split) <;> omega
set_option maxRecDepth 100000 in
theorem LeftR (d : List UInt8) (hd : d.length = 32) (n : Int) (h0 : -9223372036854775808 ≤ n) (h1 : n ≤ 9223372036854775807) (w : World) :
    Calls Tryd.prog 12 #[.agg (byv d), .int .i64 n] w fun e w' => e = .returned (.string (txt (d.take (cl n)))) ∧ Below w.heap.size w w' := by
  obtain ⟨A, hA⟩ : ∃ A, A = byv d := ⟨_, rfl⟩
  obtain ⟨p, hp, hq⟩ := held_num n h0 h1
  have hc := cl_le n
  have hs := fun W => slice_front W w.heap.size (cl n) hc
  have hv := conv_front (w.alloc (.cells A 23)) w.heap.size 23 d (cl n) 32 (by rw [← hA]; exact Blk.new w _ _) (by omega)
  have hb : Below w.heap.size w (w.alloc (.cells A 23)) := (Below.refl _ w).alloc (Nat.le_refl _) _
  obtain ⟨T, hT⟩ : ∃ T, T = txt (d.take (cl n)) := ⟨_, rfl⟩
  obtain ⟨k, hk⟩ : ∃ k, k = cl n := ⟨_, rfl⟩
  have HB := Lib.hid hb
  clear hb
  rw [← hT] at hv ⊢
  rw [← hk] at hq hv
  simp only [← hk] at hs
  rw [← hA]
  clear hA hT hk hc
  go_enter Tryd.func12, Tryd.ntmps12
  go_wp2_with fail
  go_ret; exact ⟨rfl, HB.out⟩
set_option maxRecDepth 100000 in
theorem RightR (d : List UInt8) (hd : d.length = 32) (n : Int) (h0 : -9223372036854775808 ≤ n) (h1 : n ≤ 9223372036854775807) (w : World) :
    Calls Tryd.prog 14 #[.agg (byv d), .int .i64 n] w fun e w' => e = .returned (.string (txt (d.drop (32 - cl n)))) ∧ Below w.heap.size w w' := by
  obtain ⟨A, hA⟩ : ∃ A, A = byv d := ⟨_, rfl⟩
  obtain ⟨p, hp, hq⟩ := held_num n h0 h1
  have hc := cl_le n
  obtain ⟨k, hk⟩ : ∃ k, k = 32 - cl n := ⟨_, rfl⟩
  have hk2 : k ≤ 32 := by omega
  have hs := fun W => slice_back W w.heap.size k hk2
  have hv := conv_back (w.alloc (.cells A 23)) w.heap.size 23 d k (32 - k) (by rw [← hA]; exact Blk.new w _ _) hd hk2
  have hb : Below w.heap.size w (w.alloc (.cells A 23)) := (Below.refl _ w).alloc (Nat.le_refl _) _
  rw [← hk]
  obtain ⟨T, hT⟩ : ∃ T, T = txt (d.drop k) := ⟨_, rfl⟩
  obtain ⟨o, ho⟩ : ∃ o, o = (if k = 32 then 0 else k) := ⟨_, rfl⟩
  obtain ⟨m, hm⟩ : ∃ m, m = 32 - k := ⟨_, rfl⟩
  obtain ⟨c, hcn⟩ : ∃ c, c = cl n := ⟨_, rfl⟩
  have HB := Lib.hid hb
  clear hb
  rw [← hT] at hv ⊢
  rw [← ho, ← hm] at hv
  simp only [← ho, ← hm] at hs
  rw [← hA]
  have hw : (32 : Int) - ((c : Nat) : Int) = (k : Int) := by omega
  rw [← hcn] at hq
  clear hm ho hk hA hT hcn hc
  go_enter Tryd.func14, Tryd.ntmps14
  go_wp2_with fail
  go_ret; exact ⟨rfl, HB.out⟩
end Go.Proofs.YtaeedicihildoaaDoor
