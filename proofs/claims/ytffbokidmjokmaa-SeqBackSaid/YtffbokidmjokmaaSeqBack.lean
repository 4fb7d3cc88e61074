/-
  SeqBack returns true for all a, b and n. No conditions.
-/
import Derived.Test.YtffbokidmjokmaaSeqWorks
import Derived.WalkKit
import Derived.ProofKit
import Derived.OpenShut
import Derived.ShutString
import Derived.ChangeOld
import Derived.Below
namespace Go.Proofs.Ytffbokidmjokmaa.seqBack
open Go.ChangeShapes Go.WideShapes Go.ChangeAt Go.RowKit
open Go.ChangeMaps (open_string shut_string)
set_option linter.unusedVariables false

theorem gap_ex (a b : Int) (a0 : 0 ≤ a) (a1 : a ≤ 4294967295) (b0 : 0 ≤ b) (b1 : b ≤ 4294967295) : ∃ g, (g = b - a ∨ g = b - a + 4294967296 ∨ g = b - a - 4294967296) ∧ -2147483648 ≤ g ∧ g ≤ 2147483647 := by
  by_cases h : -2147483648 ≤ b - a
  · by_cases h' : b - a ≤ 2147483647
    · exact ⟨b - a, by omega⟩
    · exact ⟨b - a - 4294967296, by omega⟩
  · exact ⟨b - a + 4294967296, by omega⟩

set_option maxRecDepth 100000 in
set_option maxHeartbeats 2000000 in
theorem walk (a : Int) (wa : (Lit.int .u32 a).wf = true) (b : Int) (wb : (Lit.int .u32 b).wf = true) (n : Int) (wn : (Lit.int .i64 n).wf = true) (w : World) :
    Calls Try.prog 6 #[.int .u32 a, .int .u32 b, .int .i64 n] w fun e w' => e = .returned (.bool true) ∧ Below w.heap.size w w' := by
  obtain ⟨a0, a1⟩ := bounds_u32 wa
  obtain ⟨b0, b1⟩ := bounds_u32 wb
  obtain ⟨n0, n1⟩ := bounds_i64 wn
  clear wa wb wn
  obtain ⟨g, hg, g0, g1⟩ := gap_ex a b a0 a1 b0 b1
  have HG := Lib.hid hg
  have P1 := Lib.hid (show (a + g) % 4294967296 = b by omega)
  clear hg
  obtain ⟨r, hr⟩ : ∃ r, (a + n) % 4294967296 = r := ⟨_, rfl⟩
  have P2 := Lib.hid hr
  obtain ⟨m, hm⟩ : ∃ m, wrap64 (-n) = m := ⟨_, rfl⟩
  have P3 := Lib.hid (show (r + m) % 4294967296 = a by rw [← hr, ← hm]; simp only [wrap64]; omega)
  have r0 : 0 ≤ r ∧ r ≤ 4294967295 := by omega
  obtain ⟨r0, r1⟩ := r0
  clear hr
  by_cases c0 : g = 0
  · clear g0 g1; subst c0; have g0 : (-2147483648 : Int) ≤ 0 := by omega
    have g1 : (0 : Int) ≤ 2147483647 := by omega
    go_enter Try.func6, Try.ntmps6
    go_wp2_with (first
      | (go_at_call 17; (with_reducible refine (works_true _).mono ?_); rintro e w0 ⟨rfl, hb0⟩)
      | (go_at_call 16; (with_reducible refine (Plus_any a 0 b P1.out _).mono ?_); rintro e w' ⟨rfl, rfl⟩)
      | (go_at_call 16; (with_reducible refine (Plus_any a n r P2.out _).mono ?_); rintro e w' ⟨rfl, rfl⟩)
      | (go_at_call 16; (with_reducible refine (Plus_any r m a P3.out _).mono ?_); rintro e w' ⟨rfl, rfl⟩)
      | (go_at_call 12; (with_reducible refine (Gap_any a b 0 a0 a1 b0 b1 HG.out g0 g1 _).mono ?_); rintro e w' ⟨rfl, rfl⟩)
      | (go_at_call 10; (with_reducible refine (Before_f a b (0) a0 a1 b0 b1 (by have := HG.out; omega) (by omega) (by omega) _).mono ?_); rintro e w' ⟨rfl, rfl⟩)
      | (go_at_call 10; (with_reducible refine (Before_f b a (0) b0 b1 a0 a1 (by have := HG.out; omega) (by omega) (by omega) _).mono ?_); rintro e w' ⟨rfl, rfl⟩))
    go_ret
    exact ⟨rfl, hb0⟩
  by_cases c1 : g = -2147483648
  · clear g0 g1 c0; subst c1; have g0 : (-2147483648 : Int) ≤ -2147483648 := by omega
    have g1 : (-2147483648 : Int) ≤ 2147483647 := by omega
    go_enter Try.func6, Try.ntmps6
    go_wp2_with (first
      | (go_at_call 17; (with_reducible refine (works_true _).mono ?_); rintro e w0 ⟨rfl, hb0⟩)
      | (go_at_call 16; (with_reducible refine (Plus_any a (-2147483648) b P1.out _).mono ?_); rintro e w' ⟨rfl, rfl⟩)
      | (go_at_call 16; (with_reducible refine (Plus_any a n r P2.out _).mono ?_); rintro e w' ⟨rfl, rfl⟩)
      | (go_at_call 16; (with_reducible refine (Plus_any r m a P3.out _).mono ?_); rintro e w' ⟨rfl, rfl⟩)
      | (go_at_call 12; (with_reducible refine (Gap_any a b (-2147483648) a0 a1 b0 b1 HG.out g0 g1 _).mono ?_); rintro e w' ⟨rfl, rfl⟩)
      | (go_at_call 10; (with_reducible refine (Before_f a b (-2147483648) a0 a1 b0 b1 (by have := HG.out; omega) (by omega) (by omega) _).mono ?_); rintro e w' ⟨rfl, rfl⟩)
      | (go_at_call 10; (with_reducible refine (Before_f b a (-2147483648) b0 b1 a0 a1 (by have := HG.out; omega) (by omega) (by omega) _).mono ?_); rintro e w' ⟨rfl, rfl⟩))
    go_ret
    exact ⟨rfl, hb0⟩
  by_cases c2 : 0 < g
  · have e0 : (g == 0) = false := by simp; omega
    have e1 : (g == -2147483648) = false := by simp; omega
    clear c0 c1
    go_enter Try.func6, Try.ntmps6
    go_wp2_with (first
      | (go_at_call 17; (with_reducible refine (works_true _).mono ?_); rintro e w0 ⟨rfl, hb0⟩)
      | (go_at_call 16; (with_reducible refine (Plus_any a g b P1.out _).mono ?_); rintro e w' ⟨rfl, rfl⟩)
      | (go_at_call 16; (with_reducible refine (Plus_any a n r P2.out _).mono ?_); rintro e w' ⟨rfl, rfl⟩)
      | (go_at_call 16; (with_reducible refine (Plus_any r m a P3.out _).mono ?_); rintro e w' ⟨rfl, rfl⟩)
      | (go_at_call 12; (with_reducible refine (Gap_any a b g a0 a1 b0 b1 HG.out g0 g1 _).mono ?_); rintro e w' ⟨rfl, rfl⟩)
      | (go_at_call 10; (with_reducible refine (Before_t a b (g) a0 a1 b0 b1 (by have := HG.out; omega) (by omega) (by omega) _).mono ?_); rintro e w' ⟨rfl, rfl⟩)
      | (go_at_call 10; (with_reducible refine (Before_f b a (-g) b0 b1 a0 a1 (by have := HG.out; omega) (by omega) (by omega) _).mono ?_); rintro e w' ⟨rfl, rfl⟩)
      | (go_at_call 12; (with_reducible refine (Gap_any b a (-g) b0 b1 a0 a1 (by have := HG.out; omega) (by omega) (by omega) _).mono ?_); rintro e w' ⟨rfl, rfl⟩))
    go_ret
    exact ⟨ret_bool (by simp; omega), hb0⟩
  · have c3 : g < 0 := by omega
    have e0 : (g == 0) = false := by simp; omega
    have e1 : (g == -2147483648) = false := by simp; omega
    have c4 : -2147483648 < g := by omega
    clear c0 c1
    go_enter Try.func6, Try.ntmps6
    go_wp2_with (first
      | (go_at_call 17; (with_reducible refine (works_true _).mono ?_); rintro e w0 ⟨rfl, hb0⟩)
      | (go_at_call 16; (with_reducible refine (Plus_any a g b P1.out _).mono ?_); rintro e w' ⟨rfl, rfl⟩)
      | (go_at_call 16; (with_reducible refine (Plus_any a n r P2.out _).mono ?_); rintro e w' ⟨rfl, rfl⟩)
      | (go_at_call 16; (with_reducible refine (Plus_any r m a P3.out _).mono ?_); rintro e w' ⟨rfl, rfl⟩)
      | (go_at_call 12; (with_reducible refine (Gap_any a b g a0 a1 b0 b1 HG.out g0 g1 _).mono ?_); rintro e w' ⟨rfl, rfl⟩)
      | (go_at_call 10; (with_reducible refine (Before_f a b (g) a0 a1 b0 b1 (by have := HG.out; omega) (by omega) (by omega) _).mono ?_); rintro e w' ⟨rfl, rfl⟩)
      | (go_at_call 10; (with_reducible refine (Before_t b a (-g) b0 b1 a0 a1 (by have := HG.out; omega) (by omega) (by omega) _).mono ?_); rintro e w' ⟨rfl, rfl⟩)
      | (go_at_call 12; (with_reducible refine (Gap_any b a (-g) b0 b1 a0 a1 (by have := HG.out; omega) (by omega) (by omega) _).mono ?_); rintro e w' ⟨rfl, rfl⟩))
    go_ret
    exact ⟨ret_bool (by simp; omega), hb0⟩

theorem own : ownKnob Try.prog.godebug = none := by kernel_rfl
theorem laidOut : laidOutB Try.prog = true := by kernel_rfl

set_option maxRecDepth 100000 in
theorem lifted (os : Os) (started : os.Started) (H : Type) (enc : TypeId × Value → H) :
    ReturnsInHanded {} Try.checked os 6 .any (Rows.seqBackSpec.pre6 enc Try.prog Try.f6 Rows.seqBackRow.domain false) (Rows.seqBackSpec.post enc Try.prog Try.f6 false true false false) := by
  refine returnsInHanded_of_change (C := Try.checked) own started (by kernel_rfl) Try.func6
    (ChangeSpec.witness6 (enc := enc) (C := Try.checked) false ⟨#[], #[.int .u32 0, .int .u32 0, .int .i64 0], []⟩ 8 (by kernel_rfl) (by kernel_rfl) (by kernel_rfl) (by kernel_rfl)) ?_
  intro W base args ds gs before hval0 hW hcnd _
  have hval : ∀ (j : Nat) t v, Try.f6.params[j]? = some t → args[j]? = some v → Value.okWide Try.prog W .any base t v := hval0
  have hW' := hW
  obtain ⟨p, q, hA0, hV, rfl, hfz, hnd⟩ := hW
  have hA : DataW.TrodAll enc Try.prog W 0 (fun _ => true) true Try.f6.params.toList args.toList ds p := hA0
  rw [Try.params6] at hA hval
  obtain ⟨v0, vs0, d0, ds0, p0, q0, hargs, rfl, rfl, h0, r0⟩ := trodAll_cons hA
  obtain ⟨v1, vs1, d1, ds1, p1, q1, rfl, rfl, rfl, h1, r1⟩ := trodAll_cons r0
  obtain ⟨v2, vs2, d2, ds2, p2, q2, rfl, rfl, rfl, h2, r2⟩ := trodAll_cons r1
  obtain ⟨rfl, rfl, rfl⟩ := trodAll_nil r2
  obtain rfl : args = #[v0, v1, v2] := by cases args; simp_all
  obtain ⟨rfl, rfl⟩ := trodVars_none hV
  obtain ⟨a0, rfl, rfl, rfl, w0⟩ := open_int Try.underlying22 (hval 0 22 v0 rfl rfl) h0
  obtain ⟨a1, rfl, rfl, rfl, w1⟩ := open_int Try.underlying22 (hval 1 22 v1 rfl rfl) h1
  obtain ⟨a2, rfl, rfl, rfl, w2⟩ := open_int Try.underlying3 (hval 2 3 v2 rfl rfl) h2
  clear hA0 hval0
  simp only [List.append_nil] at hW'
  refine (walk a0 w0 a1 w1 a2 w2 W).mono fun e W' ⟨he, bel⟩ => ?_
  subst he
  exact ⟨_, rfl, _, _, _, [], _, [], hW', trodAll_mk1 (shut_bool Try.underlying4 _), (trodAll_cons_mk (shut_int Try.underlying22 w0) (trodAll_cons_mk (shut_int Try.underlying22 w1) (trodAll_cons_mk (shut_int Try.underlying3 w2) trodAll_mk0))), rfl, bel.frame _, fun h => by cases h⟩

theorem over : Rows.seqBackRow.holds Try.pinned (OpenSpec.ofChange Rows.seqBackSpec) :=
  OpenClaim.holds_of_wide 6 Try.f6 rfl rfl rfl rfl rfl rfl rfl ⟨rfl, rfl, rfl, rfl, rfl⟩ rfl rfl rfl rfl rfl (by kernel_rfl) Try.func6 (by kernel_rfl)
    (of_decide_eq_true (by kernel_rfl)) (by unfold Func.isWrapper; first | (rw [if_pos (by decide +kernel)]; kernel_rfl) | (rw [if_neg (by decide +kernel)]; exact ⟨rfl, rfl⟩))
    (fun os started H enc _ => lifted os started H enc)

theorem proved : Rows.SeqBackSaid := over
#print axioms proved
end Go.Proofs.Ytffbokidmjokmaa.seqBack
