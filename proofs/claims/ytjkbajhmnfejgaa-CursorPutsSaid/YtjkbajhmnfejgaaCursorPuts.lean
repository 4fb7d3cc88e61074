/-
  CursorPuts returns true for all texts and numbers. No conditions.
-/
import Derived.Test.YtjkbajhmnfejgaaCurWorks
import Derived.Test.YtjkbajhmnfejgaaCurRefs
import Derived.WalkKit
import Derived.ProofKit
import Derived.OpenShut
import Derived.ShutString
import Derived.ChangeOld
import Derived.Below
import Derived.SizedLaws
namespace Go.Proofs.Ytjkbajhmnfejgaa.cursorPuts
open Go.ChangeShapes Go.WideShapes Go.ChangeAt Go.RowKit
open Go.ChangeMaps (open_string shut_string)
set_option linter.unusedVariables false

theorem be_mod1 (n : Nat) : be 1 (n % 256) = be 1 n := be_mod 1 n 1 (by omega)
theorem be_mod2 (n : Nat) : be 2 (n % 65536) = be 2 n := be_mod 2 n 2 (by omega)
theorem be_mod4 (n : Nat) : be 4 (n % 4294967296) = be 4 n := be_mod 4 n 4 (by omega)

set_option maxRecDepth 100000 in
set_option maxHeartbeats 4000000 in
theorem walk (s : ByteArray) (hs : s.size ≤ 140737488351232) (a : Int) (wa : (Lit.int .u64 a).wf = true) (w : World) :
    Calls Try.prog 4 #[.string s, .int .u64 a] w fun e w' => e = .returned (.bool true) ∧ Below w.heap.size w w' := by
  obtain ⟨a0, a1⟩ := bounds_u64 wa
  obtain ⟨n, rfl⟩ := Int.eq_ofNat_of_zero_le a0
  clear wa a0
  obtain ⟨x1, h1⟩ : ∃ x : ByteArray, x = s ++ ⟨(be 1 n).toArray⟩ := ⟨_, rfl⟩
  have H1 := Lib.hid h1
  clear h1
  obtain ⟨x2, h2⟩ : ∃ x : ByteArray, x = s ++ ⟨(be 2 n).toArray⟩ := ⟨_, rfl⟩
  have H2 := Lib.hid h2
  clear h2
  obtain ⟨x4, h4⟩ : ∃ x : ByteArray, x = s ++ ⟨(be 4 n).toArray⟩ := ⟨_, rfl⟩
  have H4 := Lib.hid h4
  clear h4
  obtain ⟨x8, h8⟩ : ∃ x : ByteArray, x = s ++ ⟨(be 8 n).toArray⟩ := ⟨_, rfl⟩
  have H8 := Lib.hid h8
  clear h8
  go_enter Try.func4, Try.ntmps4
  go_wp2_with fail
  first | rw [show ((n : Int) % 256) = ((n % 256 : Nat) : Int) by omega] | rw [show IntKind.u8.wrap (n : Int) = ((n % 256 : Nat) : Int) by rw [IntKind.wrap_u16]; omega]
  refine (answer (Put8_any s (n % 256) _ (by omega) (by omega)) (congrArg Value.string (by rw [H1.out, be_mod1] : _ = x1))).mono ?_
  rintro e w1 ⟨rfl, B1⟩
  have HB1 := Lib.hid (B1)
  clear B1
  go_wp2_with fail
  refine (answer (Put_ref s n 1 _ (by omega) (by omega) (by omega)) (congrArg Value.string (by rw [H1.out] : _ = x1))).mono ?_
  rintro e w2 ⟨rfl, B2⟩
  have HB2 := Lib.hid (HB1.out.trans (B2.mono HB1.out.size))
  clear B2
  go_wp2_with fail
  first | rw [show ((n : Int) % 65536) = ((n % 65536 : Nat) : Int) by omega] | rw [show IntKind.u16.wrap (n : Int) = ((n % 65536 : Nat) : Int) by rw [IntKind.wrap_u16]; omega]
  refine (answer (Put16_any s (n % 65536) _ (by omega) (by omega)) (congrArg Value.string (by rw [H2.out, be_mod2] : _ = x2))).mono ?_
  rintro e w3 ⟨rfl, B3⟩
  have HB3 := Lib.hid (HB2.out.trans (B3.mono HB2.out.size))
  clear B3
  go_wp2_with fail
  refine (answer (Put_ref s n 2 _ (by omega) (by omega) (by omega)) (congrArg Value.string (by rw [H2.out] : _ = x2))).mono ?_
  rintro e w4 ⟨rfl, B4⟩
  have HB4 := Lib.hid (HB3.out.trans (B4.mono HB3.out.size))
  clear B4
  go_wp2_with fail
  first | rw [show ((n : Int) % 4294967296) = ((n % 4294967296 : Nat) : Int) by omega] | rw [show IntKind.u32.wrap (n : Int) = ((n % 4294967296 : Nat) : Int) by rw [IntKind.wrap_u16]; omega]
  refine (answer (Put32_any s (n % 4294967296) _ (by omega) (by omega)) (congrArg Value.string (by rw [H4.out, be_mod4] : _ = x4))).mono ?_
  rintro e w5 ⟨rfl, B5⟩
  have HB5 := Lib.hid (HB4.out.trans (B5.mono HB4.out.size))
  clear B5
  go_wp2_with fail
  refine (answer (Put_ref s n 4 _ (by omega) (by omega) (by omega)) (congrArg Value.string (by rw [H4.out] : _ = x4))).mono ?_
  rintro e w6 ⟨rfl, B6⟩
  have HB6 := Lib.hid (HB5.out.trans (B6.mono HB5.out.size))
  clear B6
  go_wp2_with fail
  refine (answer (Put64_any s n _ (by omega) (by omega)) (congrArg Value.string (by rw [H8.out] : _ = x8))).mono ?_
  rintro e w7 ⟨rfl, B7⟩
  have HB7 := Lib.hid (HB6.out.trans (B7.mono HB6.out.size))
  clear B7
  go_wp2_with fail
  refine (answer (Put_ref s n 8 _ (by omega) (by omega) (by omega)) (congrArg Value.string (by rw [H8.out] : _ = x8))).mono ?_
  rintro e w8 ⟨rfl, B8⟩
  have HB8 := Lib.hid (HB7.out.trans (B8.mono HB7.out.size))
  clear B8
  go_wp2_with fail
  refine (works_true _).mono ?_
  rintro e w9 ⟨rfl, B9⟩
  have HB9 := Lib.hid (HB8.out.trans (B9.mono HB8.out.size))
  clear B9
  go_wp2
  go_ret
  exact ⟨rfl, HB9.out⟩

theorem own : ownKnob Try.prog.godebug = none := by kernel_rfl
theorem laidOut : laidOutB Try.prog = true := by kernel_rfl

set_option maxRecDepth 100000 in
theorem lifted (os : Os) (started : os.Started) (H : Type) (enc : TypeId × Value → H) :
    ReturnsInHanded {} Try.checked os 4 .any (Rows.cursorPutsSpec.pre6 enc Try.prog Try.f4 Rows.cursorPutsRow.domain false) (Rows.cursorPutsSpec.post enc Try.prog Try.f4 false true false false) := by
  refine returnsInHanded_of_change_sized (C := Try.checked) own started (by kernel_rfl) Try.func4
    (ChangeSpec.witness6 (enc := enc) (C := Try.checked) false ⟨#[], #[.string ByteArray.empty, .int .u64 0], []⟩ 8 (by kernel_rfl) (by kernel_rfl) (by kernel_rfl) (by kernel_rfl)) ?_
  intro W base args ds gs before hval0 hW hcnd hsz0 _
  have hsz : (DataW.weightsEach Try.prog (Try.f4.params.toList ++ Rows.cursorPutsSpec.plain.varTypes Try.prog) (ds ++ gs)).all (· ≤ reachBytes) = true := hsz0
  have hval : ∀ (j : Nat) t v, Try.f4.params[j]? = some t → args[j]? = some v → Value.okWide Try.prog W .any base t v := hval0
  have hW' := hW
  obtain ⟨p, q, hA0, hV, rfl, hfz, hnd⟩ := hW
  have hA : DataW.TrodAll enc Try.prog W 0 (fun _ => true) true Try.f4.params.toList args.toList ds p := hA0
  rw [Try.params4] at hA hval hsz
  obtain ⟨v0, vs0, d0, ds0, p0, q0, hargs, rfl, rfl, h0, r0⟩ := trodAll_cons hA
  obtain ⟨v1, vs1, d1, ds1, p1, q1, rfl, rfl, rfl, h1, r1⟩ := trodAll_cons r0
  obtain ⟨rfl, rfl, rfl⟩ := trodAll_nil r1
  obtain rfl : args = #[v0, v1] := by cases args; simp_all
  obtain ⟨rfl, rfl⟩ := trodVars_none hV
  obtain ⟨a0, rfl, rfl, rfl, w0⟩ := open_string Try.underlying9 (hval 0 9 v0 rfl rfl) h0
  obtain ⟨a1, rfl, rfl, rfl, w1⟩ := open_int Try.underlying36 (hval 1 36 v1 rfl rfl) h1
  have z0 : a0.size ≤ 140737488351232 := by have := sized_string hsz (j := 0) (t := 9) rfl rfl; simpa [reachBytes] using this
  clear hA0 hval0
  simp only [List.append_nil] at hW'
  refine (walk a0 z0 a1 w1 W).mono fun e W' ⟨he, bel⟩ => ?_
  subst he
  exact ⟨_, rfl, _, _, _, [], _, [], hW', trodAll_mk1 (shut_bool Try.underlying4 _), (trodAll_cons_mk (shut_string Try.underlying9 w0) (trodAll_cons_mk (shut_int Try.underlying36 w1) trodAll_mk0)), rfl, bel.frame _, fun h => by cases h⟩

theorem over : Rows.cursorPutsRow.holds Try.pinned (OpenSpec.ofChange Rows.cursorPutsSpec) :=
  OpenClaim.holds_of_wide 4 Try.f4 rfl rfl rfl rfl rfl rfl rfl ⟨rfl, rfl, rfl, rfl, rfl⟩ rfl rfl rfl rfl rfl (by kernel_rfl) Try.func4 (by kernel_rfl)
    (of_decide_eq_true (by kernel_rfl)) (by unfold Func.isWrapper; first | (rw [if_pos (by decide +kernel)]; kernel_rfl) | (rw [if_neg (by decide +kernel)]; exact ⟨rfl, rfl⟩))
    (fun os started H enc _ => lifted os started H enc)

theorem proved : Rows.CursorPutsSaid := over
#print axioms proved
end Go.Proofs.Ytjkbajhmnfejgaa.cursorPuts
