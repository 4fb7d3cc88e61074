/-
  CursorKnown returns true. No conditions.
-/
import Derived.Test.YtjkbajhmnfejgaaCurWorks
import Derived.WalkKit
import Derived.ProofKit
import Derived.OpenShut
import Derived.ShutString
import Derived.ChangeOld
import Derived.Below
import Derived.SizedLaws
namespace Go.Proofs.Ytjkbajhmnfejgaa.cursorKnown
open Go.ChangeShapes Go.WideShapes Go.ChangeAt Go.RowKit
open Go.ChangeMaps (open_string shut_string)
set_option linter.unusedVariables false

set_option maxRecDepth 100000 in
set_option maxHeartbeats 4000000 in
theorem walk (w : World) : Calls Try.prog 8 #[] w fun e w' => e = .returned (.bool true) ∧ Below w.heap.size w w' := by
  go_enter Try.func8, Try.ntmps8
  go_wp2_with fail
  refine (Read_new ⟨#[]⟩ _).mono ?_
  rintro e w1 ⟨b, rfl, lb, B1, C1⟩
  have HB1 := Lib.hid (B1)
  have HC1 := Lib.hid C1
  have hb : w.heap.size ≤ b := lb
  clear B1 C1 lb
  go_wp2_with fail
  refine (answer (End_donem b ⟨#[]⟩ 0 _ (by decide) (by decide) HC1.out) rfl).mono ?_
  rintro e w2 ⟨rfl, M2⟩
  have HB2 := Lib.hid (below_move HB1.out M2 hb (Nat.le_refl _))
  have HC2 := Lib.hid M2.2
  clear M2
  go_wp2_with fail
  refine (answer (Take_t b ⟨#[]⟩ 0 0 _ (by decide) (by decide) HC2.out) (congrArg Value.string (by decide) : _ = Value.string ⟨#[]⟩)).mono ?_
  rintro e w3 ⟨rfl, M3⟩
  have HB3 := Lib.hid (below_move HB2.out M3 hb (Nat.le_refl _))
  have HC3 := Lib.hid M3.2
  clear M3
  go_wp2_with fail
  refine (answer (End_donem b ⟨#[]⟩ 0 _ (by decide) (by decide) HC3.out) rfl).mono ?_
  rintro e w4 ⟨rfl, M4⟩
  have HB4 := Lib.hid (below_move HB3.out M4 hb (Nat.le_refl _))
  have HC4 := Lib.hid M4.2
  clear M4
  go_wp2_with fail
  refine (answer (U8_f b ⟨#[]⟩ 0 _ (by decide) (by decide) (by decide) HC4.out) rfl).mono ?_
  rintro e w5 ⟨rfl, M5⟩
  have HB5 := Lib.hid (below_move HB4.out M5 hb (Nat.le_refl _))
  have HC5 := Lib.hid M5.2
  clear M5
  go_wp2_with fail
  refine (answer (End_brm b ⟨#[]⟩ 0 _ HC5.out) rfl).mono ?_
  rintro e w6 ⟨rfl, M6⟩
  have HB6 := Lib.hid (below_move HB5.out M6 hb (Nat.le_refl _))
  have HC6 := Lib.hid M6.2
  clear M6
  go_wp2_with fail
  refine (answer (Take_br b ⟨#[]⟩ 0 0 _ HC6.out) rfl).mono ?_
  rintro e w7 ⟨rfl, M7⟩
  have HB7 := Lib.hid (below_move HB6.out M7 hb (Nat.le_refl _))
  have HC7 := Lib.hid M7.2
  clear M7
  go_wp2_with fail
  refine (Read_new ⟨#[97, 98, 99]⟩ _).mono ?_
  rintro e w8 ⟨c, rfl, lc, B8, C8⟩
  have HB8 := Lib.hid (HB7.out.trans (B8.mono HB7.out.size))
  have HC8 := Lib.hid C8
  have hc : w.heap.size ≤ c := Nat.le_trans HB7.out.size lc
  clear B8 C8 lc
  go_wp2_with fail
  refine (answer (Take_f c ⟨#[97, 98, 99]⟩ 0 9223372036854775807 _ (by decide) (by decide) (by decide) HC8.out) rfl).mono ?_
  rintro e w9 ⟨rfl, M9⟩
  have HB9 := Lib.hid (below_move HB8.out M9 hc (Nat.le_refl _))
  have HC9 := Lib.hid M9.2
  clear M9
  go_wp2_with fail
  refine (answer (End_brm c ⟨#[97, 98, 99]⟩ 0 _ HC9.out) rfl).mono ?_
  rintro e w10 ⟨rfl, M10⟩
  have HB10 := Lib.hid (below_move HB9.out M10 hc (Nat.le_refl _))
  have HC10 := Lib.hid M10.2
  clear M10
  go_wp2_with fail
  refine (answer (At_mv c ⟨#[97, 98, 99]⟩ 0 _ true HC10.out) (val_int (by decide) : _ = Value.int .i64 0)).mono ?_
  rintro e w11 ⟨rfl, M11⟩
  have HB11 := Lib.hid (below_move HB10.out M11 hc (Nat.le_refl _))
  have HC11 := Lib.hid M11.2
  clear M11
  go_wp2_with fail
  refine (answer (Put8_any ⟨#[]⟩ 255 _ (by decide) (by decide)) (congrArg Value.string (by decide) : _ = Value.string ⟨#[255]⟩)).mono ?_
  rintro e w12 ⟨rfl, B12⟩
  have HB12 := Lib.hid (HB11.out.trans (B12.mono HB11.out.size))
  clear B12
  go_wp2_with fail
  refine (answer (Put64_any ⟨#[255]⟩ 18446744073709551615 _ (by decide) (by decide)) (congrArg Value.string (by decide) : _ = Value.string ⟨#[255, 255, 255, 255, 255, 255, 255, 255, 255]⟩)).mono ?_
  rintro e w13 ⟨rfl, B13⟩
  have HB13 := Lib.hid (HB12.out.trans (B13.mono HB12.out.size))
  clear B13
  go_wp2_with fail
  refine (Read_new ⟨#[255, 255, 255, 255, 255, 255, 255, 255, 255]⟩ _).mono ?_
  rintro e w14 ⟨d, rfl, ld, B14, C14⟩
  have HB14 := Lib.hid (HB13.out.trans (B14.mono HB13.out.size))
  have HC14 := Lib.hid C14
  have hd : w.heap.size ≤ d := Nat.le_trans HB13.out.size ld
  clear B14 C14 ld
  go_wp2_with fail
  refine (answer (U8_t d ⟨#[255, 255, 255, 255, 255, 255, 255, 255, 255]⟩ 0 _ (by decide) (by decide) HC14.out) (val_int (by decide) : _ = Value.int .u8 255)).mono ?_
  rintro e w15 ⟨rfl, M15⟩
  have HB15 := Lib.hid (below_move HB14.out M15 hd (Nat.le_refl _))
  have HC15 := Lib.hid M15.2
  clear M15
  go_wp2_with fail
  refine (answer (U64_t d ⟨#[255, 255, 255, 255, 255, 255, 255, 255, 255]⟩ 1 _ (by decide) (by decide) HC15.out) (val_int (by decide) : _ = Value.int .u64 18446744073709551615)).mono ?_
  rintro e w16 ⟨rfl, M16⟩
  have HB16 := Lib.hid (below_move HB15.out M16 hd (Nat.le_refl _))
  have HC16 := Lib.hid M16.2
  clear M16
  go_wp2_with fail
  refine (answer (End_donem d ⟨#[255, 255, 255, 255, 255, 255, 255, 255, 255]⟩ 9 _ (by decide) (by decide) HC16.out) rfl).mono ?_
  rintro e w17 ⟨rfl, M17⟩
  have HB17 := Lib.hid (below_move HB16.out M17 hd (Nat.le_refl _))
  have HC17 := Lib.hid M17.2
  clear M17
  go_wp2_with fail
  refine (answer (U8_nil _) rfl).mono ?_
  rintro e w18 ⟨rfl, B18⟩
  have HB18 := Lib.hid (HB17.out.trans (B18.mono HB17.out.size))
  clear B18
  go_wp2_with fail
  refine (answer (U16_nil _) rfl).mono ?_
  rintro e w19 ⟨rfl, B19⟩
  have HB19 := Lib.hid (HB18.out.trans (B19.mono HB18.out.size))
  clear B19
  go_wp2_with fail
  refine (answer (U32_nil _) rfl).mono ?_
  rintro e w20 ⟨rfl, B20⟩
  have HB20 := Lib.hid (HB19.out.trans (B20.mono HB19.out.size))
  clear B20
  go_wp2_with fail
  refine (answer (U64_nil _) rfl).mono ?_
  rintro e w21 ⟨rfl, B21⟩
  have HB21 := Lib.hid (HB20.out.trans (B21.mono HB20.out.size))
  clear B21
  go_wp2_with fail
  refine (answer (Take_nil 1 _) rfl).mono ?_
  rintro e w22 ⟨rfl, B22⟩
  have HB22 := Lib.hid (HB21.out.trans (B22.mono HB21.out.size))
  clear B22
  go_wp2_with fail
  refine (Left_nil _).mono ?_
  rintro e w' ⟨rfl, rfl⟩
  go_wp2_with fail
  refine (At_nil _).mono ?_
  rintro e w' ⟨rfl, rfl⟩
  go_wp2_with fail
  refine (End_nil _).mono ?_
  rintro e w' ⟨rfl, rfl⟩
  go_wp2_with fail
  refine (answer (works_true _) rfl).mono ?_
  rintro e w23 ⟨rfl, B23⟩
  have HB23 := Lib.hid (HB22.out.trans (B23.mono HB22.out.size))
  clear B23
  go_wp2_with fail
  refine (answer (Put32_any ⟨#[120]⟩ 4294967295 _ (by decide) (by decide)) (congrArg Value.string (by decide) : _ = Value.string ⟨#[120, 255, 255, 255, 255]⟩)).mono ?_
  rintro e w24 ⟨rfl, B24⟩
  have HB24 := Lib.hid (HB23.out.trans (B24.mono HB23.out.size))
  clear B24
  go_wp2
  go_ret
  exact ⟨rfl, HB24.out⟩

theorem own : ownKnob Try.prog.godebug = none := by kernel_rfl
theorem laidOut : laidOutB Try.prog = true := by kernel_rfl

set_option maxRecDepth 100000 in
theorem lifted (os : Os) (started : os.Started) (H : Type) (enc : TypeId × Value → H) :
    ReturnsInHanded {} Try.checked os 8 .any (Rows.cursorKnownSpec.pre6 enc Try.prog Try.f8 Rows.cursorKnownRow.domain false) (Rows.cursorKnownSpec.post enc Try.prog Try.f8 false true false false) := by
  refine returnsInHanded_of_change (C := Try.checked) own started (by kernel_rfl) Try.func8
    (ChangeSpec.witness6 (enc := enc) (C := Try.checked) false ⟨#[], #[], []⟩ 8 (by kernel_rfl) (by kernel_rfl) (by kernel_rfl) (by kernel_rfl)) ?_
  intro W base args ds gs before hval0 hW hcnd _
  have hval : ∀ (j : Nat) t v, Try.f8.params[j]? = some t → args[j]? = some v → Value.okWide Try.prog W .any base t v := hval0
  have hW' := hW
  obtain ⟨p, q, hA0, hV, rfl, hfz, hnd⟩ := hW
  have hA : DataW.TrodAll enc Try.prog W 0 (fun _ => true) true Try.f8.params.toList args.toList ds p := hA0
  rw [Try.params8] at hA hval
  obtain ⟨rfl, rfl, rfl⟩ := trodAll_none hA
  obtain ⟨rfl, rfl⟩ := trodVars_none hV
  clear hA0 hval0
  simp only [List.append_nil] at hW'
  refine (walk W).mono fun e W' ⟨he, bel⟩ => ?_
  subst he
  exact ⟨_, rfl, _, _, _, [], _, [], hW', trodAll_mk1 (shut_bool Try.underlying4 _), rfl, rfl, bel.frame _, fun h => by cases h⟩

theorem over : Rows.cursorKnownRow.holds Try.pinned (OpenSpec.ofChange Rows.cursorKnownSpec) :=
  OpenClaim.holds_of_wide 8 Try.f8 rfl rfl rfl rfl rfl rfl rfl ⟨rfl, rfl, rfl, rfl, rfl⟩ rfl rfl rfl rfl rfl (by kernel_rfl) Try.func8 (by kernel_rfl)
    (of_decide_eq_true (by kernel_rfl)) (by unfold Func.isWrapper; first | (rw [if_pos (by decide +kernel)]; kernel_rfl) | (rw [if_neg (by decide +kernel)]; exact ⟨rfl, rfl⟩))
    (fun os started H enc _ => lifted os started H enc)

theorem proved : Rows.CursorKnownSaid := over
#print axioms proved
end Go.Proofs.Ytjkbajhmnfejgaa.cursorKnown
