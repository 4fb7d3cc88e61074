/-
  The chapter's examples, run: plaitlaw02's 'works' answers true.
-/
import Derived.Test.YtjkbajhmnfejgaaCurMoves
namespace Go.Proofs.Ytjkbajhmnfejgaa
open Go.RowKit
set_option linter.unusedVariables false

set_option maxRecDepth 100000 in
set_option maxHeartbeats 4000000 in
theorem works_true (w : World) : Calls Try.prog 15 #[] w fun e w' => e = .returned (.bool true) ∧ Below w.heap.size w w' := by
  go_enter Try.func15, Try.ntmps15
  go_wp2_with fail
  refine (Read_new ⟨#[1, 2, 3]⟩ _).mono ?_
  rintro e w1 ⟨b, rfl, lb, B1, C1⟩
  have HB1 := Lib.hid (B1)
  have HC1 := Lib.hid C1
  have hb : w.heap.size ≤ b := lb
  clear B1 C1 lb
  go_wp2_with fail
  refine (answer (U16_t b ⟨#[1, 2, 3]⟩ 0 _ (by decide) (by decide) HC1.out) (val_int (by decide) : _ = Value.int .u16 258)).mono ?_
  rintro e w2 ⟨rfl, M2⟩
  have HB2 := Lib.hid (below_move HB1.out M2 hb (Nat.le_refl _))
  have HC2 := Lib.hid M2.2
  clear M2
  go_wp2_with fail
  refine (answer (Left_mv b ⟨#[1, 2, 3]⟩ 2 _ (by decide) (by decide) HC2.out) (val_int (by decide) : _ = Value.int .i64 1)).mono ?_
  rintro e w3 ⟨rfl, M3⟩
  have HB3 := Lib.hid (below_move HB2.out M3 hb (Nat.le_refl _))
  have HC3 := Lib.hid M3.2
  clear M3
  go_wp2_with fail
  refine (answer (At_mv b ⟨#[1, 2, 3]⟩ 2 _ false HC3.out) (val_int (by decide) : _ = Value.int .i64 2)).mono ?_
  rintro e w4 ⟨rfl, M4⟩
  have HB4 := Lib.hid (below_move HB3.out M4 hb (Nat.le_refl _))
  have HC4 := Lib.hid M4.2
  clear M4
  go_wp2_with fail
  refine (answer (U16_f b ⟨#[1, 2, 3]⟩ 2 _ (by decide) (by decide) (by decide) HC4.out) rfl).mono ?_
  rintro e w5 ⟨rfl, M5⟩
  have HB5 := Lib.hid (below_move HB4.out M5 hb (Nat.le_refl _))
  have HC5 := Lib.hid M5.2
  clear M5
  go_wp2_with fail
  refine (answer (Left_brm b ⟨#[1, 2, 3]⟩ 2 _ HC5.out) rfl).mono ?_
  rintro e w6 ⟨rfl, M6⟩
  have HB6 := Lib.hid (below_move HB5.out M6 hb (Nat.le_refl _))
  have HC6 := Lib.hid M6.2
  clear M6
  go_wp2_with fail
  refine (answer (At_mv b ⟨#[1, 2, 3]⟩ 2 _ true HC6.out) (val_int (by decide) : _ = Value.int .i64 2)).mono ?_
  rintro e w7 ⟨rfl, M7⟩
  have HB7 := Lib.hid (below_move HB6.out M7 hb (Nat.le_refl _))
  have HC7 := Lib.hid M7.2
  clear M7
  go_wp2_with fail
  refine (answer (End_brm b ⟨#[1, 2, 3]⟩ 2 _ HC7.out) rfl).mono ?_
  rintro e w8 ⟨rfl, M8⟩
  have HB8 := Lib.hid (below_move HB7.out M8 hb (Nat.le_refl _))
  have HC8 := Lib.hid M8.2
  clear M8
  go_wp2_with fail
  refine (Read_new ⟨#[0, 0, 1, 0, 7]⟩ _).mono ?_
  rintro e w9 ⟨c, rfl, lc, B9, C9⟩
  have HB9 := Lib.hid (HB8.out.trans (B9.mono HB8.out.size))
  have HC9 := Lib.hid C9
  have hc : w.heap.size ≤ c := Nat.le_trans HB8.out.size lc
  clear B9 C9 lc
  go_wp2_with fail
  refine (answer (U32_t c ⟨#[0, 0, 1, 0, 7]⟩ 0 _ (by decide) (by decide) HC9.out) (val_int (by decide) : _ = Value.int .u32 256)).mono ?_
  rintro e w10 ⟨rfl, M10⟩
  have HB10 := Lib.hid (below_move HB9.out M10 hc (Nat.le_refl _))
  have HC10 := Lib.hid M10.2
  clear M10
  go_wp2_with fail
  refine (answer (End_morem c ⟨#[0, 0, 1, 0, 7]⟩ 4 _ (by decide) (by decide) HC10.out) rfl).mono ?_
  rintro e w11 ⟨rfl, M11⟩
  have HB11 := Lib.hid (below_move HB10.out M11 hc (Nat.le_refl _))
  have HC11 := Lib.hid M11.2
  clear M11
  go_wp2_with fail
  refine (answer (Take_t c ⟨#[0, 0, 1, 0, 7]⟩ 4 1 _ (by decide) (by decide) HC11.out) (congrArg Value.string (by decide) : _ = Value.string ⟨#[7]⟩)).mono ?_
  rintro e w12 ⟨rfl, M12⟩
  have HB12 := Lib.hid (below_move HB11.out M12 hc (Nat.le_refl _))
  have HC12 := Lib.hid M12.2
  clear M12
  go_wp2_with fail
  refine (answer (End_donem c ⟨#[0, 0, 1, 0, 7]⟩ 5 _ (by decide) (by decide) HC12.out) rfl).mono ?_
  rintro e w13 ⟨rfl, M13⟩
  have HB13 := Lib.hid (below_move HB12.out M13 hc (Nat.le_refl _))
  have HC13 := Lib.hid M13.2
  clear M13
  go_wp2_with fail
  refine (Read_new ⟨#[1]⟩ _).mono ?_
  rintro e w14 ⟨d, rfl, ld, B14, C14⟩
  have HB14 := Lib.hid (HB13.out.trans (B14.mono HB13.out.size))
  have HC14 := Lib.hid C14
  have hd : w.heap.size ≤ d := Nat.le_trans HB13.out.size ld
  clear B14 C14 ld
  go_wp2_with fail
  refine (answer (Take_f d ⟨#[1]⟩ 0 (-1) _ (by decide) (by decide) (by decide) HC14.out) rfl).mono ?_
  rintro e w15 ⟨rfl, M15⟩
  have HB15 := Lib.hid (below_move HB14.out M15 hd (Nat.le_refl _))
  have HC15 := Lib.hid M15.2
  clear M15
  go_wp2_with fail
  refine (answer (U8_br d ⟨#[1]⟩ 0 _ HC15.out) rfl).mono ?_
  rintro e w16 ⟨rfl, M16⟩
  have HB16 := Lib.hid (below_move HB15.out M16 hd (Nat.le_refl _))
  have HC16 := Lib.hid M16.2
  clear M16
  go_wp2_with fail
  refine (answer (Put16_any ⟨#[97]⟩ 258 _ (by decide) (by decide)) (congrArg Value.string (by decide) : _ = Value.string ⟨#[97, 1, 2]⟩)).mono ?_
  rintro e w17 ⟨rfl, B17⟩
  have HB17 := Lib.hid (HB16.out.trans (B17.mono HB16.out.size))
  clear B17
  go_wp2
  go_ret
  exact ⟨rfl, HB17.out⟩
end Go.Proofs.Ytjkbajhmnfejgaa
