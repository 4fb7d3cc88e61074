/-
  CursorOrder returns true for all pairs of numbers. No conditions.
-/
import Derived.Test.YtjkbajhmnfejgaaCurWorks
import Derived.Test.YtjkbajhmnfejgaaCurLess
import Derived.WalkKit
import Derived.ProofKit
import Derived.OpenShut
import Derived.ShutString
import Derived.ChangeOld
import Derived.Below
import Derived.SizedLaws
namespace Go.Proofs.Ytjkbajhmnfejgaa.cursorOrder
open Go.ChangeShapes Go.WideShapes Go.ChangeAt Go.RowKit
open Go.ChangeMaps (open_string shut_string)
set_option linter.unusedVariables false

set_option maxRecDepth 100000 in
set_option maxHeartbeats 4000000 in
theorem walk (a0 : Int) (wa : (Lit.int .u64 a0).wf = true) (b0 : Int) (wb : (Lit.int .u64 b0).wf = true) (w : World) :
    Calls Try.prog 7 #[.int .u64 a0, .int .u64 b0] w fun e w' => e = .returned (.bool true) ∧ Below w.heap.size w w' := by
  obtain ⟨a1, a2⟩ := bounds_u64 wa
  obtain ⟨b1, b2⟩ := bounds_u64 wb
  obtain ⟨a, rfl⟩ := Int.eq_ofNat_of_zero_le a1
  obtain ⟨b, rfl⟩ := Int.eq_ofNat_of_zero_le b1
  clear wa a1 wb b1
  obtain ⟨x8, h8⟩ : ∃ x : ByteArray, x = ⟨#[]⟩ ++ ⟨(be 8 a).toArray⟩ := ⟨_, rfl⟩
  obtain ⟨y8, k8⟩ : ∃ x : ByteArray, x = ⟨#[]⟩ ++ ⟨(be 8 b).toArray⟩ := ⟨_, rfl⟩
  have o8 : Op.bytesLess x8.toList y8.toList = decide ((a : Int) < (b : Int)) := by rw [h8, k8, be_less 8 _ _ (by omega) (by omega)]; exact decide_eq_decide.2 (by omega)
  have q8 : (x8.toList == y8.toList) = ((a : Int) == (b : Int)) := by rw [h8, k8, be_same 8 _ _ (by omega) (by omega), Bool.eq_iff_iff, decide_eq_true_eq, beq_iff_eq]; omega
  have H8 := Lib.hid h8
  have H108 := Lib.hid k8
  clear h8 k8
  obtain ⟨x4, h4⟩ : ∃ x : ByteArray, x = ⟨#[]⟩ ++ ⟨(be 4 (a % 4294967296)).toArray⟩ := ⟨_, rfl⟩
  obtain ⟨y4, k4⟩ : ∃ x : ByteArray, x = ⟨#[]⟩ ++ ⟨(be 4 (b % 4294967296)).toArray⟩ := ⟨_, rfl⟩
  have o4 : Op.bytesLess x4.toList y4.toList = decide ((a : Int) % 4294967296 < (b : Int) % 4294967296) := by rw [h4, k4, be_less 4 _ _ (by omega) (by omega)]; exact decide_eq_decide.2 (by omega)
  have H4 := Lib.hid h4
  have H104 := Lib.hid k4
  clear h4 k4
  obtain ⟨x2, h2⟩ : ∃ x : ByteArray, x = ⟨#[]⟩ ++ ⟨(be 2 (a % 65536)).toArray⟩ := ⟨_, rfl⟩
  obtain ⟨y2, k2⟩ : ∃ x : ByteArray, x = ⟨#[]⟩ ++ ⟨(be 2 (b % 65536)).toArray⟩ := ⟨_, rfl⟩
  have o2 : Op.bytesLess x2.toList y2.toList = decide (IntKind.u16.wrap (a : Int) < IntKind.u16.wrap (b : Int)) := by rw [h2, k2, be_less 2 _ _ (by omega) (by omega)]; exact decide_eq_decide.2 (by rw [IntKind.wrap_u16, IntKind.wrap_u16]; omega)
  have H2 := Lib.hid h2
  have H102 := Lib.hid k2
  clear h2 k2
  obtain ⟨x1, h1⟩ : ∃ x : ByteArray, x = ⟨#[]⟩ ++ ⟨(be 1 (a % 256)).toArray⟩ := ⟨_, rfl⟩
  obtain ⟨y1, k1⟩ : ∃ x : ByteArray, x = ⟨#[]⟩ ++ ⟨(be 1 (b % 256)).toArray⟩ := ⟨_, rfl⟩
  have o1 : Op.bytesLess x1.toList y1.toList = decide ((a : Int) % 256 < (b : Int) % 256) := by rw [h1, k1, be_less 1 _ _ (by omega) (by omega)]; exact decide_eq_decide.2 (by omega)
  have H1 := Lib.hid h1
  have H101 := Lib.hid k1
  clear h1 k1
  go_enter Try.func7, Try.ntmps7
  go_wp2_with fail
  refine (works_true _).mono ?_
  rintro e w1 ⟨rfl, B1⟩
  have HB1 := Lib.hid (B1)
  clear B1
  go_wp2_with fail
  refine (answer (Put64_any ⟨#[]⟩ a _ (by decide) (by omega)) (congrArg Value.string (by rw [H8.out] : _ = x8))).mono ?_
  rintro e w2 ⟨rfl, B2⟩
  have HB2 := Lib.hid (HB1.out.trans (B2.mono HB1.out.size))
  clear B2
  go_wp2_with fail
  refine (answer (Put64_any ⟨#[]⟩ b _ (by decide) (by omega)) (congrArg Value.string (by rw [H108.out] : _ = y8))).mono ?_
  rintro e w3 ⟨rfl, B3⟩
  have HB3 := Lib.hid (HB2.out.trans (B3.mono HB2.out.size))
  clear B3
  go_wp2_with fail
  refine (answer (Put64_any ⟨#[]⟩ a _ (by decide) (by omega)) (congrArg Value.string (by rw [H8.out] : _ = x8))).mono ?_
  rintro e w4 ⟨rfl, B4⟩
  have HB4 := Lib.hid (HB3.out.trans (B4.mono HB3.out.size))
  clear B4
  go_wp2_with fail
  refine (answer (Put64_any ⟨#[]⟩ b _ (by decide) (by omega)) (congrArg Value.string (by rw [H108.out] : _ = y8))).mono ?_
  rintro e w5 ⟨rfl, B5⟩
  have HB5 := Lib.hid (HB4.out.trans (B5.mono HB4.out.size))
  clear B5
  go_wp2_with fail
  rw [show ((a : Int) % 4294967296) = ((a % 4294967296 : Nat) : Int) by omega]
  refine (answer (Put32_any ⟨#[]⟩ (a % 4294967296) _ (by decide) (by omega)) (congrArg Value.string (by rw [H4.out] : _ = x4))).mono ?_
  rintro e w6 ⟨rfl, B6⟩
  have HB6 := Lib.hid (HB5.out.trans (B6.mono HB5.out.size))
  clear B6
  go_wp2_with fail
  rw [show ((b : Int) % 4294967296) = ((b % 4294967296 : Nat) : Int) by omega]
  refine (answer (Put32_any ⟨#[]⟩ (b % 4294967296) _ (by decide) (by omega)) (congrArg Value.string (by rw [H104.out] : _ = y4))).mono ?_
  rintro e w7 ⟨rfl, B7⟩
  have HB7 := Lib.hid (HB6.out.trans (B7.mono HB6.out.size))
  clear B7
  go_wp2_with fail
  rw [show IntKind.u16.wrap (a : Int) = ((a % 65536 : Nat) : Int) by rw [IntKind.wrap_u16]; omega]
  refine (answer (Put16_any ⟨#[]⟩ (a % 65536) _ (by decide) (by omega)) (congrArg Value.string (by rw [H2.out] : _ = x2))).mono ?_
  rintro e w8 ⟨rfl, B8⟩
  have HB8 := Lib.hid (HB7.out.trans (B8.mono HB7.out.size))
  clear B8
  go_wp2_with fail
  rw [show IntKind.u16.wrap (b : Int) = ((b % 65536 : Nat) : Int) by rw [IntKind.wrap_u16]; omega]
  refine (answer (Put16_any ⟨#[]⟩ (b % 65536) _ (by decide) (by omega)) (congrArg Value.string (by rw [H102.out] : _ = y2))).mono ?_
  rintro e w9 ⟨rfl, B9⟩
  have HB9 := Lib.hid (HB8.out.trans (B9.mono HB8.out.size))
  clear B9
  go_wp2_with fail
  rw [show ((a : Int) % 256) = ((a % 256 : Nat) : Int) by omega]
  refine (answer (Put8_any ⟨#[]⟩ (a % 256) _ (by decide) (by omega)) (congrArg Value.string (by rw [H1.out] : _ = x1))).mono ?_
  rintro e w10 ⟨rfl, B10⟩
  have HB10 := Lib.hid (HB9.out.trans (B10.mono HB9.out.size))
  clear B10
  go_wp2_with fail
  rw [show ((b : Int) % 256) = ((b % 256 : Nat) : Int) by omega]
  refine (answer (Put8_any ⟨#[]⟩ (b % 256) _ (by decide) (by omega)) (congrArg Value.string (by rw [H101.out] : _ = y1))).mono ?_
  rintro e w11 ⟨rfl, B11⟩
  have HB11 := Lib.hid (HB10.out.trans (B11.mono HB10.out.size))
  clear B11
  go_wp2
  go_ret
  exact ⟨rfl, HB11.out⟩

theorem own : ownKnob Try.prog.godebug = none := by kernel_rfl
theorem laidOut : laidOutB Try.prog = true := by kernel_rfl

set_option maxRecDepth 100000 in
theorem lifted (os : Os) (started : os.Started) (H : Type) (enc : TypeId × Value → H) :
    ReturnsInHanded {} Try.checked os 7 .any (Rows.cursorOrderSpec.pre6 enc Try.prog Try.f7 Rows.cursorOrderRow.domain false) (Rows.cursorOrderSpec.post enc Try.prog Try.f7 false true false false) := by
  refine returnsInHanded_of_change (C := Try.checked) own started (by kernel_rfl) Try.func7
    (ChangeSpec.witness6 (enc := enc) (C := Try.checked) false ⟨#[], #[.int .u64 0, .int .u64 0], []⟩ 8 (by kernel_rfl) (by kernel_rfl) (by kernel_rfl) (by kernel_rfl)) ?_
  intro W base args ds gs before hval0 hW hcnd _
  have hval : ∀ (j : Nat) t v, Try.f7.params[j]? = some t → args[j]? = some v → Value.okWide Try.prog W .any base t v := hval0
  have hW' := hW
  obtain ⟨p, q, hA0, hV, rfl, hfz, hnd⟩ := hW
  have hA : DataW.TrodAll enc Try.prog W 0 (fun _ => true) true Try.f7.params.toList args.toList ds p := hA0
  rw [Try.params7] at hA hval
  obtain ⟨v0, vs0, d0, ds0, p0, q0, hargs, rfl, rfl, h0, r0⟩ := trodAll_cons hA
  obtain ⟨v1, vs1, d1, ds1, p1, q1, rfl, rfl, rfl, h1, r1⟩ := trodAll_cons r0
  obtain ⟨rfl, rfl, rfl⟩ := trodAll_nil r1
  obtain rfl : args = #[v0, v1] := by cases args; simp_all
  obtain ⟨rfl, rfl⟩ := trodVars_none hV
  obtain ⟨a0, rfl, rfl, rfl, w0⟩ := open_int Try.underlying36 (hval 0 36 v0 rfl rfl) h0
  obtain ⟨a1, rfl, rfl, rfl, w1⟩ := open_int Try.underlying36 (hval 1 36 v1 rfl rfl) h1
  clear hA0 hval0
  simp only [List.append_nil] at hW'
  refine (walk a0 w0 a1 w1 W).mono fun e W' ⟨he, bel⟩ => ?_
  subst he
  exact ⟨_, rfl, _, _, _, [], _, [], hW', trodAll_mk1 (shut_bool Try.underlying4 _), (trodAll_cons_mk (shut_int Try.underlying36 w0) (trodAll_cons_mk (shut_int Try.underlying36 w1) trodAll_mk0)), rfl, bel.frame _, fun h => by cases h⟩

theorem over : Rows.cursorOrderRow.holds Try.pinned (OpenSpec.ofChange Rows.cursorOrderSpec) :=
  OpenClaim.holds_of_wide 7 Try.f7 rfl rfl rfl rfl rfl rfl rfl ⟨rfl, rfl, rfl, rfl, rfl⟩ rfl rfl rfl rfl rfl (by kernel_rfl) Try.func7 (by kernel_rfl)
    (of_decide_eq_true (by kernel_rfl)) (by unfold Func.isWrapper; first | (rw [if_pos (by decide +kernel)]; kernel_rfl) | (rw [if_neg (by decide +kernel)]; exact ⟨rfl, rfl⟩))
    (fun os started H enc _ => lifted os started H enc)

theorem proved : Rows.CursorOrderSaid := over
#print axioms proved
end Go.Proofs.Ytjkbajhmnfejgaa.cursorOrder
