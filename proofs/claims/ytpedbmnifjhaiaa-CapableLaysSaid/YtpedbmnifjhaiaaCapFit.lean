/-
  What plaitlaw09.fit answers: an option that may be, near to any one, by its walk.
-/
import Derived.Test.YtpedbmnifjhaiaaCapWalks
namespace Go.Proofs.Ytpedbmnifjhaiaa
open Go.ChangeShapes Go.WideShapes Go.ChangeAt Go.RowKit
set_option linter.unusedVariables false

/-- An option that may be, near to any one. -/
def fitc (x : Cap) : Cap :=
  let f := x.form % 18446744073709551616 % 5
  ⟨f, x.ver % 18446744073709551616 % 16, x.sums, x.alone, if f < 1 then 0 else x.own, if f < 2 then 0 else x.peer, if f < 3 then 0 else x.len % 18446744073709551616 % 65536, if f < 4 then 0 else x.sum⟩
theorem fit_ok (x : Cap) (hx : x.Ok) : (fitc x).Ok := by
  obtain ⟨_, h1, h2, h3, h4, h5⟩ := hx
  refine ⟨by simp only [fitc]; omega, by simp only [fitc]; omega, ?_, ?_, ?_, ?_⟩ <;> simp only [fitc] <;> split <;> omega
theorem fit_may (x : Cap) : (fitc x).May := by
  refine ⟨⟨by simp only [fitc]; omega, by simp only [fitc]; omega⟩, ⟨by simp only [fitc]; omega, by simp only [fitc]; omega⟩, ⟨?_, ?_⟩, ?_, ?_, ?_, ?_⟩ <;> simp only [fitc]
  · split <;> omega
  · split <;> omega
  · intro h; rw [if_pos h]
  · intro h; rw [if_pos h]
  · intro h; rw [if_pos h]
  · intro h; rw [if_pos h]

theorem fit_end (w : World) (tmps : Array Value) (cs : Array Value) (hcs : cs.size = 8) (ht : tmps.getD 2 undef = .pointer (some ⟨w.heap.size + 1, 0, none⟩)) :
    (results Try.f8 tmps).run Try.prog ((w.alloc (.cells cs 25)).alloc (.cells cs 25)) = .ok (.agg cs) ((w.alloc (.cells cs 25)).alloc (.cells cs 25)) := by
  refine results_cell_row rfl _ _ (w.heap.size + 1) 25 cs (0, 0) _ ht ?_ Try.underlying25 rfl (by rw [hcs]; exact cap_size)
  have := Blk.new (w.alloc (.cells cs 25)) 25 cs
  rwa [World.size_alloc] at this
set_option maxHeartbeats 4000000 in
set_option maxRecDepth 100000 in
theorem fit_any (x : Cap) (hx : x.Ok) (w : World) :
    Calls Try.prog 8 #[.agg (capv x)] w fun e w' => e = .returned (.agg (capv (fitc x))) ∧ Below w.heap.size w w' := by
  have hB : ∀ cs : Array Value, Below w.heap.size w ((w.alloc (.cells cs 25)).alloc (.cells cs 25)) := fun cs => ((Below.refl _ w).alloc (Nat.le_refl _) _).alloc (by simp) _
  have HB := Lib.hid hB
  clear hB hx
  obtain ⟨v, hv⟩ : ∃ v, v = x.ver % 18446744073709551616 % 16 := ⟨_, rfl⟩
  obtain ⟨l, hl⟩ : ∃ l, l = x.len % 18446744073709551616 % 65536 := ⟨_, rfl⟩
  have ev : wrap64 ((IntKind.u64.wrap x.ver).tmod 16) = v := by
    rw [IntKind.wrap_u64, Int.tmod_eq_emod_of_nonneg (by omega), ← hv]
    unfold wrap64; omega
  have el : wrap64 ((IntKind.u64.wrap x.len).tmod 65536) = l := by
    rw [IntKind.wrap_u64, Int.tmod_eq_emod_of_nonneg (by omega), ← hl]
    unfold wrap64; omega
  have HV := Lib.hid hv
  have HL := Lib.hid hl
  clear hv hl
  have cs5 : x.form % 18446744073709551616 % 5 = 0 ∨ x.form % 18446744073709551616 % 5 = 1 ∨ x.form % 18446744073709551616 % 5 = 2 ∨ x.form % 18446744073709551616 % 5 = 3 ∨ x.form % 18446744073709551616 % 5 = 4 := by omega
  rcases cs5 with hf | hf | hf | hf | hf
  · have ef : wrap64 ((IntKind.u64.wrap x.form).tmod 5) = 0 := by
      rw [IntKind.wrap_u64, Int.tmod_eq_emod_of_nonneg (by omega), hf]
      kernel_rfl
    have HF := Lib.hid (show capv (fitc x) = #[.int .i64 0, .int .i64 v, .bool x.sums, .bool x.alone, .int .u64 0, .int .u64 0, .int .i64 0, .int .u16 0] by unfold capv fitc; simp only []; rw [hf, ← HV.out, ← HL.out]; rfl)
    clear hf
    go_enter Try.func8, Try.ntmps8
    go_wp2_with fail
    exact bodyPost_ret (fit_end w _ #[.int .i64 0, .int .i64 v, .bool x.sums, .bool x.alone, .int .u64 0, .int .u64 0, .int .i64 0, .int .u16 0] rfl rfl) rfl ⟨by rw [HF.out], HB.out _⟩
  · have ef : wrap64 ((IntKind.u64.wrap x.form).tmod 5) = 1 := by
      rw [IntKind.wrap_u64, Int.tmod_eq_emod_of_nonneg (by omega), hf]
      kernel_rfl
    have HF := Lib.hid (show capv (fitc x) = #[.int .i64 1, .int .i64 v, .bool x.sums, .bool x.alone, .int .u64 (x.own : Int), .int .u64 0, .int .i64 0, .int .u16 0] by unfold capv fitc; simp only []; rw [hf, ← HV.out, ← HL.out]; rfl)
    clear hf
    go_enter Try.func8, Try.ntmps8
    go_wp2_with fail
    exact bodyPost_ret (fit_end w _ #[.int .i64 1, .int .i64 v, .bool x.sums, .bool x.alone, .int .u64 (x.own : Int), .int .u64 0, .int .i64 0, .int .u16 0] rfl rfl) rfl ⟨by rw [HF.out], HB.out _⟩
  · have ef : wrap64 ((IntKind.u64.wrap x.form).tmod 5) = 2 := by
      rw [IntKind.wrap_u64, Int.tmod_eq_emod_of_nonneg (by omega), hf]
      kernel_rfl
    have HF := Lib.hid (show capv (fitc x) = #[.int .i64 2, .int .i64 v, .bool x.sums, .bool x.alone, .int .u64 (x.own : Int), .int .u64 (x.peer : Int), .int .i64 0, .int .u16 0] by unfold capv fitc; simp only []; rw [hf, ← HV.out, ← HL.out]; rfl)
    clear hf
    go_enter Try.func8, Try.ntmps8
    go_wp2_with fail
    exact bodyPost_ret (fit_end w _ #[.int .i64 2, .int .i64 v, .bool x.sums, .bool x.alone, .int .u64 (x.own : Int), .int .u64 (x.peer : Int), .int .i64 0, .int .u16 0] rfl rfl) rfl ⟨by rw [HF.out], HB.out _⟩
  · have ef : wrap64 ((IntKind.u64.wrap x.form).tmod 5) = 3 := by
      rw [IntKind.wrap_u64, Int.tmod_eq_emod_of_nonneg (by omega), hf]
      kernel_rfl
    have HF := Lib.hid (show capv (fitc x) = #[.int .i64 3, .int .i64 v, .bool x.sums, .bool x.alone, .int .u64 (x.own : Int), .int .u64 (x.peer : Int), .int .i64 l, .int .u16 0] by unfold capv fitc; simp only []; rw [hf, ← HV.out, ← HL.out]; rfl)
    clear hf
    go_enter Try.func8, Try.ntmps8
    go_wp2_with fail
    exact bodyPost_ret (fit_end w _ #[.int .i64 3, .int .i64 v, .bool x.sums, .bool x.alone, .int .u64 (x.own : Int), .int .u64 (x.peer : Int), .int .i64 l, .int .u16 0] rfl rfl) rfl ⟨by rw [HF.out], HB.out _⟩
  · have ef : wrap64 ((IntKind.u64.wrap x.form).tmod 5) = 4 := by
      rw [IntKind.wrap_u64, Int.tmod_eq_emod_of_nonneg (by omega), hf]
      kernel_rfl
    have HF := Lib.hid (show capv (fitc x) = #[.int .i64 4, .int .i64 v, .bool x.sums, .bool x.alone, .int .u64 (x.own : Int), .int .u64 (x.peer : Int), .int .i64 l, .int .u16 (x.sum : Int)] by unfold capv fitc; simp only []; rw [hf, ← HV.out, ← HL.out]; rfl)
    clear hf
    go_enter Try.func8, Try.ntmps8
    go_wp2_with fail
    exact bodyPost_ret (fit_end w _ #[.int .i64 4, .int .i64 v, .bool x.sums, .bool x.alone, .int .u64 (x.own : Int), .int .u64 (x.peer : Int), .int .i64 l, .int .u16 (x.sum : Int)] rfl rfl) rfl ⟨by rw [HF.out], HB.out _⟩
end Go.Proofs.Ytpedbmnifjhaiaa
