/-
  SeqWide returns true for all numbers. No conditions.
-/
import Derived.Test.YtffbokidmjokmaaSeqWorks
import Derived.Test.YtffbokidmjokmaaSeqRefs
import Derived.WalkKit
import Derived.ProofKit
import Derived.OpenShut
import Derived.ShutString
import Derived.ChangeOld
import Derived.Below
namespace Go.Proofs.Ytffbokidmjokmaa.seqWide
open Go.ChangeShapes Go.WideShapes Go.ChangeAt Go.RowKit
open Go.ChangeMaps (open_string shut_string)
set_option linter.unusedVariables false

theorem exp_ex2 (low near : Int) (l0 : 0 ≤ low) (l1 : low ≤ 4294967295) (n0 : 0 ≤ near) (n1 : near ≤ 18446744073709551615) :
    ∃ d y, (-2147483648 < d ∧ d ≤ 2147483648 ∧ (near + d) % 4294967296 = low ∧ (near + d) % 18446744073709551616 = y) ∧ 0 ≤ y ∧ y ≤ 18446744073709551615 := by
  by_cases h : (low - near) % 4294967296 ≤ 2147483648
  · exact ⟨(low - near) % 4294967296, _, ⟨by omega, by omega, by omega, rfl⟩, by omega, by omega⟩
  · exact ⟨(low - near) % 4294967296 - 4294967296, _, ⟨by omega, by omega, by omega, rfl⟩, by omega, by omega⟩
theorem far_ex (a b : Int) (a0 : 0 ≤ a) (a1 : a ≤ 18446744073709551615) (b0 : 0 ≤ b) (b1 : b ≤ 18446744073709551615) : ∃ g, (g = b - a ∨ g = b - a + 18446744073709551616 ∨ g = b - a - 18446744073709551616) ∧ -9223372036854775808 ≤ g ∧ g ≤ 9223372036854775807 := by
  by_cases h : -9223372036854775808 ≤ b - a
  · by_cases h' : b - a ≤ 9223372036854775807
    · exact ⟨b - a, by omega⟩
    · exact ⟨b - a - 18446744073709551616, by omega⟩
  · exact ⟨b - a + 18446744073709551616, by omega⟩

theorem exp_some (low near : Int) (l0 : 0 ≤ low) (l1 : low ≤ 4294967295) (n0 : 0 ≤ near) (n1 : near ≤ 18446744073709551615) :
    ∃ y, ∃ d, -2147483648 < d ∧ d ≤ 2147483648 ∧ (near + d) % 4294967296 = low ∧ (near + d) % 18446744073709551616 = y := by
  obtain ⟨d, y, h, _⟩ := exp_ex2 low near l0 l1 n0 n1
  exact ⟨y, d, h⟩

set_option maxRecDepth 100000 in
set_option maxHeartbeats 2000000 in
theorem walk (low : Int) (wl : (Lit.int .u32 low).wf = true) (near : Int) (wn : (Lit.int .u64 near).wf = true) (more : Int) (wm : (Lit.int .i64 more).wf = true) (w : World) :
    Calls Try.prog 4 #[.int .u32 low, .int .u64 near, .int .i64 more] w fun e w' => e = .returned (.bool true) ∧ Below w.heap.size w w' := by
  obtain ⟨low0, low1⟩ := bounds_u32 wl
  obtain ⟨n0, n1⟩ := bounds_u64 wn
  obtain ⟨m0, m1⟩ := bounds_i64 wm
  clear wl wn wm
  obtain ⟨t5, e5⟩ : ∃ x, more.tmod 5 = x := ⟨_, rfl⟩
  obtain ⟨u5, eu5⟩ : ∃ x, IntKind.u64.wrap t5 = x := ⟨_, rfl⟩
  obtain ⟨s5, es5⟩ : ∃ x, IntKind.u64.wrap (near + u5) = x := ⟨_, rfl⟩
  obtain ⟨x1, ex1⟩ : ∃ x, s5 % 4294967296 = x := ⟨_, rfl⟩
  obtain ⟨t3, e3⟩ : ∃ x, more.tmod 3 = x := ⟨_, rfl⟩
  obtain ⟨u3, eu3⟩ : ∃ x, IntKind.u64.wrap t3 = x := ⟨_, rfl⟩
  obtain ⟨nn, en⟩ : ∃ x, IntKind.u64.wrap (near + 2147483648) = x := ⟨_, rfl⟩
  obtain ⟨s3, es3⟩ : ∃ x, IntKind.u64.wrap (nn + u3) = x := ⟨_, rfl⟩
  obtain ⟨x2, ex2⟩ : ∃ x, s3 % 4294967296 = x := ⟨_, rfl⟩
  obtain ⟨x10, x11⟩ : 0 ≤ x1 ∧ x1 ≤ 4294967295 := by omega
  obtain ⟨x20, x21⟩ : 0 ≤ x2 ∧ x2 ≤ 4294967295 := by omega
  obtain ⟨um, eum⟩ : ∃ x, IntKind.u64.wrap more = x := ⟨_, rfl⟩
  obtain ⟨q, eq⟩ : ∃ x, IntKind.u64.wrap (near + um) = x := ⟨_, rfl⟩
  obtain ⟨q0, q1⟩ : 0 ≤ q ∧ q ≤ 18446744073709551615 := by rw [← eq, IntKind.wrap_u64]; omega
  obtain ⟨y0, h0⟩ := exp_some low near low0 low1 n0 n1
  obtain ⟨y1, h1⟩ := exp_some x1 near x10 x11 n0 n1
  obtain ⟨y2, h2⟩ := exp_some x2 near x20 x21 n0 n1
  obtain ⟨g, hg, g0, g1⟩ := far_ex near q n0 n1 q0 q1
  obtain ⟨k, hk, k0, k1⟩ := far_ex near low n0 n1 (by omega) (by omega)
  have HG := Lib.hid hg
  have HK := Lib.hid hk
  have H0 := Lib.hid h0
  have H1 := Lib.hid h1
  have H2 := Lib.hid h2
  clear h0 h1 h2 hg hk
  have low2 : low ≤ 18446744073709551615 := by omega
  have i0 : ∀ w, (Instr.index 34 (.agg #[.int .u32 low, .int .u32 x1, .int .u32 x2]) (.int .i64 0)).run Try.prog w = .ok (.int .u32 low) w := fun _ => by kernel_rfl
  have i1 : ∀ w, (Instr.index 34 (.agg #[.int .u32 low, .int .u32 x1, .int .u32 x2]) (.int .i64 1)).run Try.prog w = .ok (.int .u32 x1) w := fun _ => by kernel_rfl
  have i2 : ∀ w, (Instr.index 34 (.agg #[.int .u32 low, .int .u32 x1, .int .u32 x2]) (.int .i64 2)).run Try.prog w = .ok (.int .u32 x2) w := fun _ => by kernel_rfl
  go_enter Try.func4, Try.ntmps4
  go_wp2
  clear e5 eu5 es5 ex1 e3 eu3 en es3 ex2
  go_loopw [24] (fun i wr => (i = .int .i64 0 ∨ i = .int .i64 1 ∨ i = .int .i64 2 ∨ i = .int .i64 3) ∧ Below w.heap.size w wr) (fun i _ => 3 - (intOf i).toNat)
  case atStart => exact ⟨.inl rfl, Below.refl _ _⟩
  case round =>
    obtain ⟨rfl | rfl | rfl | rfl, hB⟩ := hrel
    · clear i1 i2
      go_wp2_with (first
      | (go_at_call 18; (with_reducible refine (Expand_any low near y0 low0 low1 n0 n1 H0.out _).mono ?_); rintro e w1 ⟨rfl, hb1⟩)
      | (go_at_call 19; (with_reducible refine (Expand_ref low near y0 low0 low1 n0 n1 H0.out _).mono ?_); rintro e w' ⟨rfl, rfl⟩))
      go_roundw
      case rel => exact ⟨.inr (.inl rfl), hB.trans (hb1.mono hB.size)⟩
      case measure => simp [intOf]
    · clear i0 i2
      go_wp2_with (first
      | (go_at_call 18; (with_reducible refine (Expand_any x1 near y1 x10 x11 n0 n1 H1.out _).mono ?_); rintro e w1 ⟨rfl, hb1⟩)
      | (go_at_call 19; (with_reducible refine (Expand_ref x1 near y1 x10 x11 n0 n1 H1.out _).mono ?_); rintro e w' ⟨rfl, rfl⟩))
      go_roundw
      case rel => exact ⟨.inr (.inr (.inl rfl)), hB.trans (hb1.mono hB.size)⟩
      case measure => simp [intOf]
    · clear i0 i1
      go_wp2_with (first
      | (go_at_call 18; (with_reducible refine (Expand_any x2 near y2 x20 x21 n0 n1 H2.out _).mono ?_); rintro e w1 ⟨rfl, hb1⟩)
      | (go_at_call 19; (with_reducible refine (Expand_ref x2 near y2 x20 x21 n0 n1 H2.out _).mono ?_); rintro e w' ⟨rfl, rfl⟩))
      go_roundw
      case rel => exact ⟨.inr (.inr (.inr rfl)), hB.trans (hb1.mono hB.size)⟩
      case measure => simp [intOf]
    · clear i0 i1 i2
      go_wp2_with (first
      | (go_at_call 20; (with_reducible refine (Far_any near q g n0 n1 q0 q1 HG.out g0 g1 _).mono ?_); rintro e w' ⟨rfl, rfl⟩)
      | (go_at_call 21; (with_reducible refine (Far_ref near q g n0 n1 q0 q1 HG.out g0 g1 _).mono ?_); rintro e w' ⟨rfl, rfl⟩)
      | (go_at_call 20; (with_reducible refine (Far_any near low k n0 n1 low0 low2 HK.out k0 k1 _).mono ?_); rintro e w' ⟨rfl, rfl⟩)
      | (go_at_call 21; (with_reducible refine (Far_ref near low k n0 n1 low0 low2 HK.out k0 k1 _).mono ?_); rintro e w' ⟨rfl, rfl⟩)
      | (go_at_call 17; (with_reducible refine (works_true _).mono ?_); rintro e w0 ⟨rfl, hb0⟩))
      go_ret
      exact ⟨rfl, hB.trans (hb0.mono hB.size)⟩

theorem own : ownKnob Try.prog.godebug = none := by kernel_rfl
theorem laidOut : laidOutB Try.prog = true := by kernel_rfl

set_option maxRecDepth 100000 in
theorem lifted (os : Os) (started : os.Started) (H : Type) (enc : TypeId × Value → H) :
    ReturnsInHanded {} Try.checked os 4 .any (Rows.seqWideSpec.pre6 enc Try.prog Try.f4 Rows.seqWideRow.domain false) (Rows.seqWideSpec.post enc Try.prog Try.f4 false true false false) := by
  refine returnsInHanded_of_change (C := Try.checked) own started (by kernel_rfl) Try.func4
    (ChangeSpec.witness6 (enc := enc) (C := Try.checked) false ⟨#[], #[.int .u32 0, .int .u64 0, .int .i64 0], []⟩ 8 (by kernel_rfl) (by kernel_rfl) (by kernel_rfl) (by kernel_rfl)) ?_
  intro W base args ds gs before hval0 hW hcnd _
  have hval : ∀ (j : Nat) t v, Try.f4.params[j]? = some t → args[j]? = some v → Value.okWide Try.prog W .any base t v := hval0
  have hW' := hW
  obtain ⟨p, q, hA0, hV, rfl, hfz, hnd⟩ := hW
  have hA : DataW.TrodAll enc Try.prog W 0 (fun _ => true) true Try.f4.params.toList args.toList ds p := hA0
  rw [Try.params4] at hA hval
  obtain ⟨v0, vs0, d0, ds0, p0, q0, hargs, rfl, rfl, h0, r0⟩ := trodAll_cons hA
  obtain ⟨v1, vs1, d1, ds1, p1, q1, rfl, rfl, rfl, h1, r1⟩ := trodAll_cons r0
  obtain ⟨v2, vs2, d2, ds2, p2, q2, rfl, rfl, rfl, h2, r2⟩ := trodAll_cons r1
  obtain ⟨rfl, rfl, rfl⟩ := trodAll_nil r2
  obtain rfl : args = #[v0, v1, v2] := by cases args; simp_all
  obtain ⟨rfl, rfl⟩ := trodVars_none hV
  obtain ⟨a0, rfl, rfl, rfl, w0⟩ := open_int Try.underlying22 (hval 0 22 v0 rfl rfl) h0
  obtain ⟨a1, rfl, rfl, rfl, w1⟩ := open_int Try.underlying33 (hval 1 33 v1 rfl rfl) h1
  obtain ⟨a2, rfl, rfl, rfl, w2⟩ := open_int Try.underlying3 (hval 2 3 v2 rfl rfl) h2
  clear hA0 hval0
  simp only [List.append_nil] at hW'
  refine (walk a0 w0 a1 w1 a2 w2 W).mono fun e W' ⟨he, bel⟩ => ?_
  subst he
  exact ⟨_, rfl, _, _, _, [], _, [], hW', trodAll_mk1 (shut_bool Try.underlying4 _), (trodAll_cons_mk (shut_int Try.underlying22 w0) (trodAll_cons_mk (shut_int Try.underlying33 w1) (trodAll_cons_mk (shut_int Try.underlying3 w2) trodAll_mk0))), rfl, bel.frame _, fun h => by cases h⟩

theorem over : Rows.seqWideRow.holds Try.pinned (OpenSpec.ofChange Rows.seqWideSpec) :=
  OpenClaim.holds_of_wide 4 Try.f4 rfl rfl rfl rfl rfl rfl rfl ⟨rfl, rfl, rfl, rfl, rfl⟩ rfl rfl rfl rfl rfl (by kernel_rfl) Try.func4 (by kernel_rfl)
    (of_decide_eq_true (by kernel_rfl)) (by unfold Func.isWrapper; first | (rw [if_pos (by decide +kernel)]; kernel_rfl) | (rw [if_neg (by decide +kernel)]; exact ⟨rfl, rfl⟩))
    (fun os started H enc _ => lifted os started H enc)

theorem proved : Rows.SeqWideSaid := over
#print axioms proved
end Go.Proofs.Ytffbokidmjokmaa.seqWide
