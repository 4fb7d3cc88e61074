/-
  SeqWiden returns true for all numbers. No conditions.
-/
import Derived.Test.YtffbokidmjokmaaSeqWorks
import Derived.WalkKit
import Derived.ProofKit
import Derived.OpenShut
import Derived.ShutString
import Derived.ChangeOld
import Derived.Below
namespace Go.Proofs.Ytffbokidmjokmaa.seqWiden
open Go.ChangeShapes Go.WideShapes Go.ChangeAt Go.RowKit
open Go.ChangeMaps (open_string shut_string)
set_option linter.unusedVariables false

theorem exp_ex (low near : Int) (l0 : 0 ≤ low) (l1 : low ≤ 4294967295) (n0 : 0 ≤ near) (n1 : near ≤ 18446744073709551615) :
    ∃ d y, (-2147483648 < d ∧ d ≤ 2147483648 ∧ (near + d) % 4294967296 = low ∧ (near + d) % 18446744073709551616 = y) ∧ 0 ≤ y ∧ y ≤ 18446744073709551615 := by
  by_cases h : (low - near) % 4294967296 ≤ 2147483648
  · exact ⟨(low - near) % 4294967296, _, ⟨by omega, by omega, by omega, rfl⟩, by omega, by omega⟩
  · exact ⟨(low - near) % 4294967296 - 4294967296, _, ⟨by omega, by omega, by omega, rfl⟩, by omega, by omega⟩

set_option maxRecDepth 100000 in
set_option maxHeartbeats 2000000 in
theorem walk (near : Int) (wn : (Lit.int .u64 near).wf = true) (far : Int) (wf : (Lit.int .u32 far).wf = true) (low : Int) (wl : (Lit.int .u32 low).wf = true) (back : Bool) (w : World) :
    Calls Try.prog 7 #[.int .u64 near, .int .u32 far, .int .u32 low, .bool back] w fun e w' => e = .returned (.bool true) ∧ Below w.heap.size w w' := by
  obtain ⟨n0, n1⟩ := bounds_u64 wn
  obtain ⟨f0, f1⟩ := bounds_u32 wf
  obtain ⟨l0, l1⟩ := bounds_u32 wl
  clear wn wf wl
  obtain ⟨k, ek⟩ : ∃ k, far % 2147483648 = k := ⟨_, rfl⟩
  obtain ⟨k0, k1⟩ : 0 ≤ k ∧ k ≤ 2147483647 := by omega
  obtain ⟨d, y, he, y0, y1⟩ := exp_ex low near l0 l1 n0 n1
  obtain ⟨d0, d1, -, -⟩ := id he
  have HE := Lib.hid (show ∃ d, -2147483648 < d ∧ d ≤ 2147483648 ∧ (near + d) % 4294967296 = low ∧ (near + d) % 18446744073709551616 = y from ⟨d, he⟩)
  have HF := Lib.hid (show d = y - near ∨ d = y - near + 18446744073709551616 ∨ d = y - near - 18446744073709551616 by omega)
  have eyl : y % 4294967296 = low := by omega
  obtain ⟨ud, eud⟩ : ∃ ud, IntKind.u64.wrap d = ud := ⟨_, rfl⟩
  have ey : IntKind.u64.wrap (near + ud) = y := by rw [← eud, IntKind.wrap_u64, IntKind.wrap_u64]; omega
  clear he
  cases back
  · 
    obtain ⟨x, ex⟩ : ∃ x, IntKind.u64.wrap (near + k) = x := ⟨_, rfl⟩
    have hx : (near + k) % 18446744073709551616 = x := by rw [← ex, IntKind.wrap_u64]
    obtain ⟨x0, x1⟩ : 0 ≤ x ∧ x ≤ 18446744073709551615 := by omega
    obtain ⟨xl, exl⟩ : ∃ xl, x % 4294967296 = xl := ⟨_, rfl⟩
    obtain ⟨xl0, xl1⟩ : 0 ≤ xl ∧ xl ≤ 4294967295 := by omega
    have X1 := Lib.hid (show ∃ d, -2147483648 < d ∧ d ≤ 2147483648 ∧ (near + d) % 4294967296 = xl ∧ (near + d) % 18446744073709551616 = x from ⟨k, by omega, by omega, by omega, by omega⟩)
    have X2 := Lib.hid (show k = x - near ∨ k = x - near + 18446744073709551616 ∨ k = x - near - 18446744073709551616 by omega)
    clear hx
    go_enter Try.func7, Try.ntmps7
    go_wp2_with (first
      | (go_at_call 17; (with_reducible refine (works_true _).mono ?_); rintro e w0 ⟨rfl, hb0⟩)
      | (go_at_call 18; (with_reducible refine (Expand_any low near y l0 l1 n0 n1 HE.out _).mono ?_); rintro e w1 ⟨rfl, hb1⟩)
      | (go_at_call 18; (with_reducible refine (Expand_any xl near x xl0 xl1 n0 n1 X1.out _).mono ?_); rintro e w2 ⟨rfl, hb2⟩)
      | (go_at_call 20; (with_reducible refine (Far_any near y d n0 n1 y0 y1 HF.out (by omega) (by omega) _).mono ?_); rintro e w' ⟨rfl, rfl⟩)
      | (go_at_call 20; (with_reducible refine (Far_any near x k n0 n1 x0 x1 X2.out (by omega) (by omega) _).mono ?_); rintro e w' ⟨rfl, rfl⟩))
    go_ret
    exact ⟨ret_bool (by simp), (hb0.trans (hb1.mono hb0.size)).trans (hb2.mono (Nat.le_trans hb0.size hb1.size))⟩
  · 
    obtain ⟨x, ex⟩ : ∃ x, IntKind.u64.wrap (near - k) = x := ⟨_, rfl⟩
    have hx : (near - k) % 18446744073709551616 = x := by rw [← ex, IntKind.wrap_u64]
    obtain ⟨x0, x1⟩ : 0 ≤ x ∧ x ≤ 18446744073709551615 := by omega
    obtain ⟨xl, exl⟩ : ∃ xl, x % 4294967296 = xl := ⟨_, rfl⟩
    obtain ⟨xl0, xl1⟩ : 0 ≤ xl ∧ xl ≤ 4294967295 := by omega
    have X1 := Lib.hid (show ∃ d, -2147483648 < d ∧ d ≤ 2147483648 ∧ (near + d) % 4294967296 = xl ∧ (near + d) % 18446744073709551616 = x from ⟨(-k), by omega, by omega, by omega, by omega⟩)
    have X2 := Lib.hid (show (-k) = x - near ∨ (-k) = x - near + 18446744073709551616 ∨ (-k) = x - near - 18446744073709551616 by omega)
    clear hx
    go_enter Try.func7, Try.ntmps7
    go_wp2_with (first
      | (go_at_call 17; (with_reducible refine (works_true _).mono ?_); rintro e w0 ⟨rfl, hb0⟩)
      | (go_at_call 18; (with_reducible refine (Expand_any low near y l0 l1 n0 n1 HE.out _).mono ?_); rintro e w1 ⟨rfl, hb1⟩)
      | (go_at_call 18; (with_reducible refine (Expand_any xl near x xl0 xl1 n0 n1 X1.out _).mono ?_); rintro e w2 ⟨rfl, hb2⟩)
      | (go_at_call 20; (with_reducible refine (Far_any near y d n0 n1 y0 y1 HF.out (by omega) (by omega) _).mono ?_); rintro e w' ⟨rfl, rfl⟩)
      | (go_at_call 20; (with_reducible refine (Far_any near x (-k) n0 n1 x0 x1 X2.out (by omega) (by omega) _).mono ?_); rintro e w' ⟨rfl, rfl⟩))
    go_ret
    exact ⟨ret_bool (by simp), (hb0.trans (hb1.mono hb0.size)).trans (hb2.mono (Nat.le_trans hb0.size hb1.size))⟩

theorem own : ownKnob Try.prog.godebug = none := by kernel_rfl
theorem laidOut : laidOutB Try.prog = true := by kernel_rfl

set_option maxRecDepth 100000 in
theorem lifted (os : Os) (started : os.Started) (H : Type) (enc : TypeId × Value → H) :
    ReturnsInHanded {} Try.checked os 7 .any (Rows.seqWidenSpec.pre6 enc Try.prog Try.f7 Rows.seqWidenRow.domain false) (Rows.seqWidenSpec.post enc Try.prog Try.f7 false true false false) := by
  refine returnsInHanded_of_change (C := Try.checked) own started (by kernel_rfl) Try.func7
    (ChangeSpec.witness6 (enc := enc) (C := Try.checked) false ⟨#[], #[.int .u64 0, .int .u32 0, .int .u32 0, .bool false], []⟩ 8 (by kernel_rfl) (by kernel_rfl) (by kernel_rfl) (by kernel_rfl)) ?_
  intro W base args ds gs before hval0 hW hcnd _
  have hval : ∀ (j : Nat) t v, Try.f7.params[j]? = some t → args[j]? = some v → Value.okWide Try.prog W .any base t v := hval0
  have hW' := hW
  obtain ⟨p, q, hA0, hV, rfl, hfz, hnd⟩ := hW
  have hA : DataW.TrodAll enc Try.prog W 0 (fun _ => true) true Try.f7.params.toList args.toList ds p := hA0
  rw [Try.params7] at hA hval
  obtain ⟨v0, vs0, d0, ds0, p0, q0, hargs, rfl, rfl, h0, r0⟩ := trodAll_cons hA
  obtain ⟨v1, vs1, d1, ds1, p1, q1, rfl, rfl, rfl, h1, r1⟩ := trodAll_cons r0
  obtain ⟨v2, vs2, d2, ds2, p2, q2, rfl, rfl, rfl, h2, r2⟩ := trodAll_cons r1
  obtain ⟨v3, vs3, d3, ds3, p3, q3, rfl, rfl, rfl, h3, r3⟩ := trodAll_cons r2
  obtain ⟨rfl, rfl, rfl⟩ := trodAll_nil r3
  obtain rfl : args = #[v0, v1, v2, v3] := by cases args; simp_all
  obtain ⟨rfl, rfl⟩ := trodVars_none hV
  obtain ⟨a0, rfl, rfl, rfl, w0⟩ := open_int Try.underlying33 (hval 0 33 v0 rfl rfl) h0
  obtain ⟨a1, rfl, rfl, rfl, w1⟩ := open_int Try.underlying22 (hval 1 22 v1 rfl rfl) h1
  obtain ⟨a2, rfl, rfl, rfl, w2⟩ := open_int Try.underlying22 (hval 2 22 v2 rfl rfl) h2
  obtain ⟨a3, rfl, rfl, rfl⟩ := open_bool Try.underlying4 (hval 3 4 v3 rfl rfl) h3
  clear hA0 hval0
  simp only [List.append_nil] at hW'
  refine (walk a0 w0 a1 w1 a2 w2 a3 W).mono fun e W' ⟨he, bel⟩ => ?_
  subst he
  exact ⟨_, rfl, _, _, _, [], _, [], hW', trodAll_mk1 (shut_bool Try.underlying4 _), (trodAll_cons_mk (shut_int Try.underlying33 w0) (trodAll_cons_mk (shut_int Try.underlying22 w1) (trodAll_cons_mk (shut_int Try.underlying22 w2) (trodAll_cons_mk (shut_bool Try.underlying4 _) trodAll_mk0)))), rfl, bel.frame _, fun h => by cases h⟩

theorem over : Rows.seqWidenRow.holds Try.pinned (OpenSpec.ofChange Rows.seqWidenSpec) :=
  OpenClaim.holds_of_wide 7 Try.f7 rfl rfl rfl rfl rfl rfl rfl ⟨rfl, rfl, rfl, rfl, rfl⟩ rfl rfl rfl rfl rfl (by kernel_rfl) Try.func7 (by kernel_rfl)
    (of_decide_eq_true (by kernel_rfl)) (by unfold Func.isWrapper; first | (rw [if_pos (by decide +kernel)]; kernel_rfl) | (rw [if_neg (by decide +kernel)]; exact ⟨rfl, rfl⟩))
    (fun os started H enc _ => lifted os started H enc)

theorem proved : Rows.SeqWidenSaid := over
#print axioms proved
end Go.Proofs.Ytffbokidmjokmaa.seqWiden
