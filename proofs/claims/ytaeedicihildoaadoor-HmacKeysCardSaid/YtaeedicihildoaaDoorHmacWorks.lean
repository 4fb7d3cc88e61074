/-
  The chapter's examples (the law's own 'works'), and 'code', by their walks.
-/
import Derived.Test.YtaeedicihildoaaDoorHexs
import Derived.Test.YtaeedicihildoaaDoorHmacSame
import Derived.Test.YtaeedicihildoaaDoorHmacOf
namespace Go.Proofs.YtaeedicihildoaaDoor
open Go.ChangeShapes Go.WideShapes Go.ChangeAt Go.RowKit
set_option linter.unusedVariables false

set_option maxRecDepth 100000 in
/-- The digits of a code; S: how they are told. -/
theorem code_any (key text S : ByteArray) (hS : S = txt (hexs (code key.data.toList text.data.toList))) (w : World) (ht : Tbl w) (hk : key.size ≤ 100000) (hx : text.size ≤ 100000) :
    Calls Tryd.prog 17 #[.string key, .string text] w fun e w' => e = .returned (.string S) ∧ Below w.heap.size w w' := by
  obtain ⟨z32, hz32⟩ : ∃ z32, z32 = byv (List.replicate 32 0) := ⟨_, rfl⟩
  have hdz := digest_zero
  rw [← hz32] at hdz
  obtain ⟨d, hd⟩ : ∃ d, d = code key.data.toList text.data.toList := ⟨_, rfl⟩
  have hd32 : d.length = 32 := by rw [hd, code_length]
  obtain ⟨D, hD⟩ : ∃ D, D = byv d := ⟨_, rfl⟩
  have hzk : DOk z32 := by rw [hz32]; exact dok_zero
  have hdk : DOk D := by rw [hD]; exact dok _ hd32
  rw [← hd] at hS
  have HS := Lib.hid hS
  have HZK := Lib.hid hzk
  have HDK := Lib.hid hdk
  have HD := Lib.hid hD
  have HDD := Lib.hid (show D = byv (code key.data.toList text.data.toList) by rw [hD, hd])
  have HT := Lib.hid ht
  clear hz32 ht hD hd hzk hdk hS
  go_enter Tryd.func17, Tryd.ntmps17
  go_wp2_with fail
  refine (Of_any key text D HDD.out w HT.out (by omega) (by omega)).mono ?_
  rintro e W1 ⟨rfl, b1⟩
  have n0 := Blk.new W1 23 z32
  obtain ⟨W2, hW2⟩ : ∃ W2, W2 = (W1.alloc (.cells z32 23)).setRow W1.heap.size D := ⟨_, rfl⟩
  have hb : Blk W2 W1.heap.size 23 D := by rw [hW2]; exact setRow_heap _ _ _ _ _ _ n0
  have HB2 := Lib.hid (show Below w.heap.size w W2 by rw [hW2]; exact b1.trans ((below_setRow ((Below.refl _ W1).alloc (Nat.le_refl _) _) (Nat.le_refl _) _).mono b1.size))
  have hsl := fun W => slice_all W W1.heap.size
  have hcv := conv_front W2 W1.heap.size 23 d 32 32 (by rw [← HD.out]; exact hb) (by omega)
  rw [List.take_of_length_le (by omega)] at hcv
  obtain ⟨T, hT⟩ : ∃ T, T = txt d := ⟨_, rfl⟩
  have hTd : T.data.toList = d := by rw [hT]
  rw [← hT] at hcv
  have hTs : T.size ≤ 1000 := by rw [← len_data, hTd]; omega
  have HTD := Lib.hid hTd
  have HN0 := Lib.hid n0
  have HDO := Lib.hid (show z32.size = D.size by rw [HZK.out.size, HDK.out.size])
  have HW2 := Lib.hid hW2
  obtain ⟨g, hg⟩ : ∃ g, g = W1.heap.size := ⟨_, rfl⟩
  rw [← hg] at hsl hcv
  have HG := Lib.hid hg
  clear n0 hW2 hb b1 hT hTd HT hg
  go_wp2_with (refine wpList_store_row rfl 23 (.tmp 5) (.tmp 8) rfl W1.heap.size D rfl rfl 23 z32 HN0.out HDK.out.info HDO.out HDK.out.one ?_)
  rw [← HW2.out, ← HG.out]
  clear HW2 HG
  go_wp2_with fail
  rw [hcv]
  go_wp2_with fail
  refine (digits_any T hTs W2).mono ?_
  rintro e W3 ⟨rfl, b3⟩
  have HB3 := Lib.hid (HB2.out.trans (b3.mono HB2.out.size))
  rw [HTD.out, ← HS.out]
  clear b3 HB2
  go_wp2_with fail
  go_ret; exact ⟨rfl, HB3.out⟩

def keyJ : List UInt8 := [74, 101, 102, 101]
def textJ : List UInt8 := [119, 104, 97, 116, 32, 100, 111, 32, 121, 97, 32, 119, 97, 110, 116, 32, 102, 111, 114, 32, 110, 111, 116, 104, 105, 110, 103, 63]
def dJ : List UInt8 := [91, 220, 193, 70, 191, 96, 117, 78, 106, 4, 36, 38, 8, 149, 117, 199, 90, 0, 63, 8, 157, 39, 57, 131, 157, 236, 88, 185, 100, 236, 56, 67]
theorem codeJ : code keyJ textJ = dJ := by decide +kernel
theorem codeH : (ByteArray.mk #[98, 48, 51, 52, 52, 99, 54, 49, 100, 56, 100, 98, 51, 56, 53, 51, 53, 99, 97, 56, 97, 102, 99, 101, 97, 102, 48, 98, 102, 49, 50, 98, 56, 56, 49, 100, 99, 50, 48, 48, 99, 57, 56, 51, 51, 100, 97, 55, 50, 54, 101, 57, 51, 55, 54, 99, 50, 101, 51, 50, 99, 102, 102, 55]) = txt (hexs (code (List.replicate 20 11) [72, 105, 32, 84, 104, 101, 114, 101])) := txt_ext (by decide +kernel)
theorem hexJ : txt (hexs dJ) = ByteArray.mk #[53, 98, 100, 99, 99, 49, 52, 54, 98, 102, 54, 48, 55, 53, 52, 101, 54, 97, 48, 52, 50, 52, 50, 54, 48, 56, 57, 53, 55, 53, 99, 55, 53, 97, 48, 48, 51, 102, 48, 56, 57, 100, 50, 55, 51, 57, 56, 51, 57, 100, 101, 99, 53, 56, 98, 57, 54, 52, 101, 99, 51, 56, 52, 51] := txt_ext (by decide +kernel)
theorem hexL : txt (hexs (dJ.take 4)) = ByteArray.mk #[53, 98, 100, 99, 99, 49, 52, 54] := txt_ext (by decide +kernel)
theorem hexR : txt (hexs (dJ.drop 30)) = ByteArray.mk #[51, 56, 52, 51] := txt_ext (by decide +kernel)

set_option maxRecDepth 100000 in
set_option maxHeartbeats 2000000 in
theorem works_t (w : World) (ht : Tbl w) :
    Calls Tryd.prog 10 #[] w fun e w' => e = .returned (.bool true) ∧ Below w.heap.size w w' := by
  obtain ⟨z32, hz32⟩ : ∃ z32, z32 = byv (List.replicate 32 0) := ⟨_, rfl⟩
  have hdz := digest_zero
  rw [← hz32] at hdz
  have hzk : DOk z32 := by rw [hz32]; exact dok_zero
  obtain ⟨D, hD⟩ : ∃ D, D = byv dJ := ⟨_, rfl⟩
  have hdk : DOk D := by rw [hD]; exact dok _ (by decide)
  have HZK := Lib.hid hzk
  have HDK := Lib.hid hdk
  have HD := Lib.hid hD
  have HDC := Lib.hid (show D = byv (code keyJ textJ) by rw [codeJ]; exact hD)
  have HT := Lib.hid ht
  clear hz32 ht hD hzk hdk
  go_enter Tryd.func10, Tryd.ntmps10
  go_wp2_with fail
  refine (Of_any ⟨#[74, 101, 102, 101]⟩ ⟨#[119, 104, 97, 116, 32, 100, 111, 32, 121, 97, 32, 119, 97, 110, 116, 32, 102, 111, 114, 32, 110, 111, 116, 104, 105, 110, 103, 63]⟩ D HDC.out w HT.out (by decide) (by decide)).mono ?_
  rintro e W1 ⟨rfl, b1⟩
  have n0 := Blk.new W1 23 z32
  obtain ⟨W2, hW2⟩ : ∃ W2, W2 = (W1.alloc (.cells z32 23)).setRow W1.heap.size D := ⟨_, rfl⟩
  have hb : Blk W2 W1.heap.size 23 D := by rw [hW2]; exact setRow_heap _ _ _ _ _ _ n0
  have b2 : Below W1.heap.size W1 W2 := by rw [hW2]; exact below_setRow ((Below.refl _ W1).alloc (Nat.le_refl _) _) (Nat.le_refl _) _
  have HB2 := Lib.hid (b1.trans (b2.mono b1.size))
  have HT2 := Lib.hid ((HT.out.below b1).below b2)
  have HBK2 := Lib.hid hb
  have HN0 := Lib.hid n0
  have HDO := Lib.hid (show z32.size = D.size by rw [HZK.out.size, HDK.out.size])
  have HW2 := Lib.hid hW2
  obtain ⟨g, hg⟩ : ∃ g, g = W1.heap.size := ⟨_, rfl⟩
  rw [← hg] at HBK2
  have HG := Lib.hid hg
  clear n0 hW2 hb b1 b2 HT hg
  go_wp2_with (refine wpList_store_row rfl 23 (.tmp 1) (.tmp 2) rfl W1.heap.size D rfl rfl 23 z32 HN0.out HDK.out.info HDO.out HDK.out.one ?_)
  rw [← HW2.out, ← HG.out]
  clear HW2 HG
  go_wp2_with fail
  refine (repeat_any 11 20 (by decide) W2).mono ?_
  rintro e W3 ⟨rfl, b3⟩
  have HT3 := Lib.hid (HT2.out.below b3)
  have HBK3 := Lib.hid (HBK2.out.below b3 HBK2.out.lt)
  have HB3 := Lib.hid (HB2.out.trans (b3.mono HB2.out.size))
  obtain ⟨R, hR⟩ : ∃ R, R = txt (List.replicate 20 11) := ⟨_, rfl⟩
  have hRs : R.size = 20 := by rw [hR]; rfl
  have HR := Lib.hid (show R.data.toList = List.replicate 20 11 by rw [hR])
  rw [← hR]
  clear b3 hR HT2 HBK2 HB2
  go_wp2_with fail
  refine (code_any R ⟨#[72, 105, 32, 84, 104, 101, 114, 101]⟩ ⟨#[98, 48, 51, 52, 52, 99, 54, 49, 100, 56, 100, 98, 51, 56, 53, 51, 53, 99, 97, 56, 97, 102, 99, 101, 97, 102, 48, 98, 102, 49, 50, 98, 56, 56, 49, 100, 99, 50, 48, 48, 99, 57, 56, 51, 51, 100, 97, 55, 50, 54, 101, 57, 51, 55, 54, 99, 50, 101, 51, 50, 99, 102, 102, 55]⟩ (by rw [HR.out]; exact codeH) W3 HT3.out (by omega) (by decide)).mono ?_
  rintro e W4 ⟨rfl, b4⟩
  have HT4 := Lib.hid (HT3.out.below b4)
  have HBK4 := Lib.hid (HBK3.out.below b4 HBK3.out.lt)
  have HB4 := Lib.hid (HB3.out.trans (b4.mono HB3.out.size))
  clear b4 HT3 HBK3 HB3 hRs HR
  have hsl := fun W => slice_all W g
  have hcv := conv_front W4 g 23 dJ 32 32 (by rw [← HD.out]; exact HBK4.out) (by decide)
  rw [List.take_of_length_le (by decide)] at hcv
  obtain ⟨T, hT⟩ : ∃ T, T = txt dJ := ⟨_, rfl⟩
  have hTs : T.size ≤ 1000 := by rw [hT]; decide
  have HTD := Lib.hid (show txt (hexs T.data.toList) = ByteArray.mk #[53, 98, 100, 99, 99, 49, 52, 54, 98, 102, 54, 48, 55, 53, 52, 101, 54, 97, 48, 52, 50, 52, 50, 54, 48, 56, 57, 53, 55, 53, 99, 55, 53, 97, 48, 48, 51, 102, 48, 56, 57, 100, 50, 55, 51, 57, 56, 51, 57, 100, 101, 99, 53, 56, 98, 57, 54, 52, 101, 99, 51, 56, 52, 51] by rw [hT]; exact hexJ)
  rw [← hT] at hcv
  clear hT
  go_wp2_with fail
  refine (digits_any T hTs W4).mono ?_
  rintro e W5 ⟨rfl, b5⟩
  rw [HTD.out]
  have HT5 := Lib.hid (HT4.out.below b5)
  have HBK5 := Lib.hid (HBK4.out.below b5 HBK4.out.lt)
  have HB5 := Lib.hid (HB4.out.trans (b5.mono HB4.out.size))
  clear b5 HT4 HBK4 HB4 hcv hsl HTD hTs
  go_wp2_with (refine wpList_load_row_w (by rfl) 23 (.tmp 1) rfl g rfl 23 D (0, 0) _ HBK5.out digest_under rfl HDK.out.info ?_)
  have TL := Left_any dJ (by decide) 4 (by decide) (by decide) W5
  have TR := fun W => Right_any dJ (by decide) 2 (by decide) (by decide) W
  rw [← HD.out, show cl 4 = 4 from rfl] at TL
  simp only [← HD.out, show 32 - cl 2 = 30 from rfl] at TR
  obtain ⟨T4, hT4⟩ : ∃ T, T = txt (dJ.take 4) := ⟨_, rfl⟩
  obtain ⟨T2, hT2⟩ : ∃ T, T = txt (dJ.drop 30) := ⟨_, rfl⟩
  rw [← hT4] at TL
  simp only [← hT2] at TR
  have hT4s : T4.size ≤ 1000 := by rw [hT4]; decide
  have hT2s : T2.size ≤ 1000 := by rw [hT2]; decide
  have HTD4 := Lib.hid (show txt (hexs T4.data.toList) = ByteArray.mk #[53, 98, 100, 99, 99, 49, 52, 54] by rw [hT4]; exact hexL)
  have HTD2 := Lib.hid (show txt (hexs T2.data.toList) = ByteArray.mk #[51, 56, 52, 51] by rw [hT2]; exact hexR)
  clear hT4 hT2
  refine TL.mono ?_
  rintro e W6 ⟨rfl, b6⟩
  have HBK6 := Lib.hid (HBK5.out.below b6 HBK5.out.lt)
  have HB6 := Lib.hid (HB5.out.trans (b6.mono HB5.out.size))
  clear b6 HT5 HBK5 HB5 TL
  go_wp2_with fail
  refine (digits_any T4 hT4s W6).mono ?_
  rintro e W7 ⟨rfl, b7⟩
  rw [HTD4.out]
  have HBK7 := Lib.hid (HBK6.out.below b7 HBK6.out.lt)
  have HB7 := Lib.hid (HB6.out.trans (b7.mono HB6.out.size))
  clear b7 HBK6 HB6 HTD4 hT4s
  go_wp2_with (refine wpList_load_row_w (by rfl) 23 (.tmp 1) rfl g rfl 23 D (0, 0) _ HBK7.out digest_under rfl HDK.out.info ?_)
  refine (TR W7).mono ?_
  rintro e W8 ⟨rfl, b8⟩
  have HB8 := Lib.hid (HB7.out.trans (b8.mono HB7.out.size))
  clear b8 HBK7 HB7 TR
  go_wp2_with fail
  refine (digits_any T2 hT2s W8).mono ?_
  rintro e W9 ⟨rfl, b9⟩
  rw [HTD2.out]
  have HB9 := Lib.hid (HB8.out.trans (b9.mono HB8.out.size))
  clear b9 HB8 HTD2 hT2s
  go_wp2_with fail
  refine (Same_any ⟨#[97, 98]⟩ ⟨#[97, 98]⟩ true (by simp) (by decide) (by decide) W9).mono ?_
  rintro e W' ⟨rfl, rfl⟩
  go_wp2_with fail
  refine (Same_any ⟨#[97, 98]⟩ ⟨#[97, 99]⟩ false (by decide) (by decide) (by decide) W9).mono ?_
  rintro e W' ⟨rfl, rfl⟩
  go_wp2_with fail
  refine (Same_any ⟨#[97, 98]⟩ ⟨#[97]⟩ false (by decide) (by decide) (by decide) W9).mono ?_
  rintro e W' ⟨rfl, rfl⟩
  go_wp2_with fail
  go_ret
  exact ⟨rfl, HB9.out⟩
end Go.Proofs.YtaeedicihildoaaDoor
