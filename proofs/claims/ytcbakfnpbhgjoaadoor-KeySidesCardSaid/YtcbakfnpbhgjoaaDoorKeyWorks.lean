/-
  works answers true: the chapter's examples, by its walk.
-/
import Derived.Test.YtcbakfnpbhgjoaaDoorKeyCodes
import Derived.Test.YtcbakfnpbhgjoaaDoorHmacSmall
namespace Go.Proofs.YtcbakfnpbhgjoaaDoor
open Go.ChangeShapes Go.WideShapes Go.ChangeAt Go.RowKit
set_option linter.unusedVariables false

/-- The chapter's address. -/
def ten : List UInt8 := [10, 0, 0, 1]
theorem two_bytes : (⟨#[0, 0, 0, 0, 0, 0, 1, 2]⟩ : ByteArray) = txt (be 8 258) := by decide
theorem under_bytes : (⟨#[0, 0, 0, 0, 0, 0, 0, 1, 0, 0, 0, 0, 0, 0, 0, 2]⟩ : ByteArray).data.toList = be 8 1 ++ be 8 2 := by decide
theorem text_bytes34 : (⟨#[0, 0, 0, 3, 0, 0, 0, 4]⟩ : ByteArray).data.toList = be 4 3 ++ be 4 4 := by decide
theorem text_bytes7 : (⟨#[7, 10, 0, 0, 1, 0, 80]⟩ : ByteArray).data.toList = addr 7 ten 80 := by decide

set_option maxHeartbeats 1000000 in
set_option maxRecDepth 100000 in
theorem works_t (w : World) (ht : Tbl w) : Calls Tryd.prog 16 #[] w fun e w' => e = .returned (.bool true) ∧ Below w.heap.size w w' := by
  obtain ⟨z32, hz32⟩ : ∃ z32, z32 = byv (List.replicate 32 0) := ⟨_, rfl⟩
  have hdz := digest_zero
  rw [← hz32] at hdz
  have HZK := Lib.hid (show DOk z32 by rw [hz32]; exact dok_zero)
  obtain ⟨D, hD⟩ : ∃ D, D = byv (kdig 258) := ⟨_, rfl⟩
  have HD := Lib.hid hD
  have HDK := Lib.hid (show DOk D by rw [hD]; exact dok _ (kdig_length _))
  obtain ⟨M, hM⟩ : ∃ M, M = byv (macn 1 2 3 4) := ⟨_, rfl⟩
  have HM := Lib.hid hM
  have HMK := Lib.hid (show DOk M by rw [hM]; exact dok _ (macn_length _ _ _ _))
  have HMC := Lib.hid (show M = byv (code (⟨#[0, 0, 0, 0, 0, 0, 0, 1, 0, 0, 0, 0, 0, 0, 0, 2]⟩ : ByteArray).data.toList (⟨#[0, 0, 0, 3, 0, 0, 0, 4]⟩ : ByteArray).data.toList) by rw [under_bytes, text_bytes34]; exact hM)
  obtain ⟨E, hE⟩ : ∃ E, E = byv (mac 1 2 (addr 7 ten 80)) := ⟨_, rfl⟩
  have HEC := Lib.hid (show E = byv (code (⟨#[0, 0, 0, 0, 0, 0, 0, 1, 0, 0, 0, 0, 0, 0, 0, 2]⟩ : ByteArray).data.toList (⟨#[7, 10, 0, 0, 1, 0, 80]⟩ : ByteArray).data.toList) by rw [under_bytes, text_bytes7]; exact hE)
  obtain ⟨L, hL⟩ : ∃ L, L = txt (told 1 2 7 ten 80) := ⟨_, rfl⟩
  have hLs : L.size = 8 := by rw [hL]; simp [ByteArray.size, told, mac_length]
  have TL : ∀ W, Calls Tryd.prog 30 #[.agg E, .int .i64 8] W fun e w' => e = .returned (.string L) ∧ Below W.heap.size W w' := fun W => by
    have h := Right_any (mac 1 2 (addr 7 ten 80)) (mac_length _ _ _) 8 (by decide) (by decide) W
    rw [← hE, show 32 - cl 8 = 24 from rfl, show txt ((mac 1 2 (addr 7 ten 80)).drop 24) = L by rw [hL, told]] at h
    exact h
  have HL := Lib.hid (show L = txt (told 1 2 7 (⟨#[10, 0, 0, 1]⟩ : ByteArray).data.toList 80) from hL)
  have HLS := Lib.hid hLs
  obtain ⟨T, hT⟩ : ∃ T, T = txt (kdig 258) := ⟨_, rfl⟩
  have hTs : T.size = 32 := by rw [hT]; simp [ByteArray.size, kdig_length]
  have HTK := Lib.hid (show num T 0 4 = tok 258 by rw [hT, tok]; exact (num_front (kdig 258) 4 4 (by decide)).symm)
  have HIS := Lib.hid (show num T 24 8 = idsn 258 by rw [hT, idsn]; exact (num_part (kdig 258) 24 8).symm)
  have HT := Lib.hid ht
  have HTT := Lib.hid hT
  clear hz32 ht hD hM hE hL hT hLs
  go_enter Tryd.func16, Tryd.ntmps16
  go_wp2_with fail
  refine (SumL ⟨#[0, 0, 0, 0, 0, 0, 1, 2]⟩ _ D w rfl (by rw [HD.out, two_bytes, kdig]) HT.out (by decide)).mono ?_
  rintro e W1 ⟨rfl, b1⟩
  have n0 := Blk.new W1 32 z32
  obtain ⟨W2, hW2⟩ : ∃ W2, W2 = (W1.alloc (.cells z32 32)).setRow W1.heap.size D := ⟨_, rfl⟩
  have hb : Blk W2 W1.heap.size 32 D := by rw [hW2]; exact setRow_heap _ _ _ _ _ _ n0
  have b2 : Below W1.heap.size W1 W2 := by rw [hW2]; exact below_setRow ((Below.refl _ W1).alloc (Nat.le_refl _) _) (Nat.le_refl _) _
  have HB2 := Lib.hid (b1.trans (b2.mono b1.size))
  have HN0 := Lib.hid n0
  have HDO := Lib.hid (show z32.size = D.size by rw [HZK.out.size, HDK.out.size])
  have HW2 := Lib.hid hW2
  obtain ⟨g, hg⟩ : ∃ g, g = W1.heap.size := ⟨_, rfl⟩
  rw [← hg] at hb
  have HG := Lib.hid hg
  have hsl := fun W => slice_all W g
  have hcv := conv_front W2 g 32 (kdig 258) 32 32 (by rw [← HD.out]; exact hb) (by rw [kdig_length]; decide)
  rw [List.take_of_length_le (by rw [kdig_length]; decide), ← HTT.out] at hcv
  clear n0 hW2 hb b1 b2 hg
  go_wp2_with (refine wpList_store_row rfl 32 (.tmp 2) (.tmp 11) rfl W1.heap.size D rfl rfl 32 z32 HN0.out HDK.out.info HDO.out HDK.out.one ?_)
  rw [← HW2.out, ← HG.out]
  clear HW2 HG
  go_wp2_with fail
  rw [hcv]
  go_wp2_with fail
  refine (Read_new T W2).mono ?_
  rintro e W3 ⟨b, rfl, hb, b3, hc⟩
  have HB3 := Lib.hid (HB2.out.trans (b3.mono HB2.out.size))
  have HBB := Lib.hid (Nat.le_trans HB2.out.size hb)
  have HC3 := Lib.hid hc
  clear b3 hb hc HB2 hcv hsl HN0
  go_wp2_with fail
  refine (U32_t b T 0 W3 (by omega) (by omega) HC3.out).mono ?_
  rintro e W4 ⟨rfl, mv⟩
  have HB4 := Lib.hid (below_move HB3.out mv HBB.out (Nat.le_refl _))
  have HC4 := Lib.hid mv.2
  rw [HTK.out]
  clear mv HC3 HB3
  go_wp2_with fail
  refine (Take_t b T 4 20 W4 (by omega) (by omega) HC4.out).mono ?_
  rintro e W5 ⟨rfl, mv⟩
  have HB5 := Lib.hid (below_move HB4.out mv HBB.out (Nat.le_refl _))
  have HC5 := Lib.hid mv.2
  clear mv HC4 HB4
  go_wp2_with fail
  refine (U64_t b T 24 W5 (by omega) (by omega) HC5.out).mono ?_
  rintro e W6 ⟨rfl, mv⟩
  have HB6 := Lib.hid (below_move HB5.out mv HBB.out (Nat.le_refl _))
  rw [HIS.out]
  clear mv HC5 HB5 HBB hTs
  go_wp2_with fail
  refine (Of_any ⟨#[0, 0, 0, 0, 0, 0, 0, 1, 0, 0, 0, 0, 0, 0, 0, 2]⟩ ⟨#[0, 0, 0, 3, 0, 0, 0, 4]⟩ M HMC.out W6 (HT.out.below HB6.out) (by decide) (by decide)).mono ?_
  rintro e W7 ⟨rfl, b7⟩
  have n7 := Blk.new W7 32 z32
  obtain ⟨W8, hW8⟩ : ∃ W8, W8 = (W7.alloc (.cells z32 32)).setRow W7.heap.size M := ⟨_, rfl⟩
  have hb8 : Blk W8 W7.heap.size 32 M := by rw [hW8]; exact setRow_heap _ _ _ _ _ _ n7
  have b8 : Below W7.heap.size W7 W8 := by rw [hW8]; exact below_setRow ((Below.refl _ W7).alloc (Nat.le_refl _) _) (Nat.le_refl _) _
  have HB8 := Lib.hid (HB6.out.trans ((b7.trans (b8.mono b7.size)).mono HB6.out.size))
  have HN7 := Lib.hid n7
  have HMO := Lib.hid (show z32.size = M.size by rw [HZK.out.size, HMK.out.size])
  have HW8 := Lib.hid hW8
  obtain ⟨gm, hgm⟩ : ∃ gm, gm = W7.heap.size := ⟨_, rfl⟩
  rw [← hgm] at hb8
  have HGM := Lib.hid hgm
  have HK8 := Lib.hid hb8
  clear n7 hW8 hb8 b7 b8 hgm HB6
  go_upto_region 9 with (refine wpList_store_row rfl 32 (.tmp 7) (.tmp 22) rfl W7.heap.size M rfl rfl 32 z32 HN7.out HMK.out.info HMO.out HMK.out.one ?_)
  rw [← HW8.out, ← HGM.out]
  clear HW8 HGM
  obtain ⟨W9, hW9⟩ : ∃ W9, W9 = W8.alloc (.cells #[.int .i64 7, .string ⟨#[10, 0, 0, 1]⟩, .bool true, .int .i64 80] 38) := ⟨_, rfl⟩
  have hb9 : Blk W9 W8.heap.size 38 #[.int .i64 7, .string ⟨#[10, 0, 0, 1]⟩, .bool true, .int .i64 80] := by rw [hW9]; exact Blk.new _ _ _
  have b9 : Below W8.heap.size W8 W9 := by rw [hW9]; exact (Below.refl _ W8).alloc (Nat.le_refl _) _
  have HB9 := Lib.hid (HB8.out.trans (b9.mono HB8.out.size))
  have HK9 := Lib.hid (HK8.out.below b9 HK8.out.lt)
  have HW9 := Lib.hid hW9
  obtain ⟨gx, hgx⟩ : ∃ gx, gx = W8.heap.size := ⟨_, rfl⟩
  rw [← hgx] at hb9
  have HGX := Lib.hid hgx
  have HX9 := Lib.hid hb9
  clear hW9 hb9 b9 hgx HB8 HK8
  go_upto_region 10 with fail
  rw [← HW9.out, ← HGX.out]
  clear HW9 HGX
  go_wp2_with fail
  refine (Of_any ⟨#[0, 0, 0, 0, 0, 0, 0, 1, 0, 0, 0, 0, 0, 0, 0, 2]⟩ ⟨#[7, 10, 0, 0, 1, 0, 80]⟩ E HEC.out W9 (HT.out.below HB9.out) (by decide) (by decide)).mono ?_
  rintro e X1 ⟨rfl, b10⟩
  have HB10 := Lib.hid (HB9.out.trans (b10.mono HB9.out.size))
  have HK10 := Lib.hid (HK9.out.below b10 HK9.out.lt)
  have HX10 := Lib.hid (HX9.out.below b10 HX9.out.lt)
  clear b10 HB9 HK9 HX9
  go_wp2_with fail
  refine (TL X1).mono ?_
  rintro e V ⟨rfl, b11⟩
  have HBV := Lib.hid (HB10.out.trans (b11.mono HB10.out.size))
  have HTV := Lib.hid (HT.out.below HBV.out)
  have HKM := Lib.hid (HK10.out.below b11 HK10.out.lt)
  have HKX := Lib.hid (HX10.out.below b11 HX10.out.lt)
  clear b11 HB10 HK10 HX10 TL HT HD HTT HTK HIS HEC HMC HDK HDO HMO HN7
  go_upto_region 11 with fail
  have B0 : Below V.heap.size V V.drew := (Below.refl _ V).drew
  refine held_start (fun W => Below V.heap.size V W) (by kernel_rfl) (n := 30) rfl ?_
  obtain ⟨W0, hW0⟩ : ∃ W0, W0 = V.drew := ⟨_, rfl⟩
  rw [← hW0] at B0 ⊢
  clear hW0
  refine held_free 1 (.string ⟨#[0, 0, 0, 0, 0, 0, 1, 2]⟩) rfl (by kernel_rfl) (by kernel_rfl) (by kernel_rfl) (by kernel_rfl) B0 (fun _ _ => by kernel_rfl) ?_
  refine held_call 0 rfl (by kernel_rfl) (by kernel_rfl) (by kernel_rfl) (Bytes_any 258 (by decide) ⟨#[0, 0, 0, 0, 0, 0, 1, 2]⟩ two_bytes _) (fun w' h => bel_in B0 h) ?_
  intro W1 hW1
  have B1 := bel_in B0 hW1
  clear hW1 B0
  refine held_free 2 (.bool true) rfl (by kernel_rfl) (by kernel_rfl) (by kernel_rfl) (by kernel_rfl) B1 (fun _ _ => ex_streq 9 9 (.tmp 27) (.tmp 28) (by kernel_rfl) (⟨#[0, 0, 0, 0, 0, 0, 1, 2]⟩) (⟨#[0, 0, 0, 0, 0, 0, 1, 2]⟩) (by kernel_rfl) (by kernel_rfl) (by kernel_rfl) rfl) ?_
  refine held_free 3 (.bool true) rfl (by kernel_rfl) (by kernel_rfl) (by kernel_rfl) (by kernel_rfl) B1 (fun _ _ => by kernel_rfl) ?_
  refine held_free 5 (.int .u32 (tok 258 : Int)) rfl (by kernel_rfl) (by kernel_rfl) (by kernel_rfl) (by kernel_rfl) B1 (fun _ _ => by kernel_rfl) ?_
  refine held_call 4 rfl (by kernel_rfl) (by kernel_rfl) (by kernel_rfl) (Token_any 258 (by decide) _ (HTV.out.below B1)) (fun w' h => bel_in B1 h) ?_
  intro W2 hW2
  have B2 := bel_in B1 hW2
  clear hW2 B1
  refine held_free 6 (.bool true) rfl (by kernel_rfl) (by kernel_rfl) (by kernel_rfl) (by kernel_rfl) B2 (fun _ _ => ex_inteq .u32 24 24 (.tmp 31) (.tmp 32) (by kernel_rfl) ((tok 258 : Int)) ((tok 258 : Int)) (by kernel_rfl) (by kernel_rfl) (by kernel_rfl) rfl) ?_
  refine held_free 7 (.bool true) rfl (by kernel_rfl) (by kernel_rfl) (by kernel_rfl) (by kernel_rfl) B2 (fun _ _ => by kernel_rfl) ?_
  refine held_free 8 (.bool true) rfl (by kernel_rfl) (by kernel_rfl) (by kernel_rfl) (by kernel_rfl) B2 (fun _ _ => by kernel_rfl) ?_
  refine held_free 10 (.int .u64 (idsn 258 : Int)) rfl (by kernel_rfl) (by kernel_rfl) (by kernel_rfl) (by kernel_rfl) B2 (fun _ _ => by kernel_rfl) ?_
  refine held_call 9 rfl (by kernel_rfl) (by kernel_rfl) (by kernel_rfl) (Idsn_any 258 (by decide) _ (HTV.out.below B2)) (fun w' h => bel_in B2 h) ?_
  intro W3 hW3
  have B3 := bel_in B2 hW3
  clear hW3 B2
  refine held_free 11 (.bool true) rfl (by kernel_rfl) (by kernel_rfl) (by kernel_rfl) (by kernel_rfl) B3 (fun _ _ => ex_inteq .u64 22 22 (.tmp 36) (.tmp 37) (by kernel_rfl) ((idsn 258 : Int)) ((idsn 258 : Int)) (by kernel_rfl) (by kernel_rfl) (by kernel_rfl) rfl) ?_
  refine held_free 12 (.bool true) rfl (by kernel_rfl) (by kernel_rfl) (by kernel_rfl) (by kernel_rfl) B3 (fun _ _ => by kernel_rfl) ?_
  refine held_free 13 (.bool true) rfl (by kernel_rfl) (by kernel_rfl) (by kernel_rfl) (by kernel_rfl) B3 (fun _ _ => by kernel_rfl) ?_
  refine held_free 15 (.agg M) rfl (by kernel_rfl) (by kernel_rfl) (by kernel_rfl) (by kernel_rfl) B3 (fun W b => exec_row_ 32 (.tmp 7) (by kernel_rfl) gm (by kernel_rfl) 32 M (0, 0) _ (HKM.out.below b HKM.out.lt) digest_under rfl HMK.out.info) ?_
  refine held_call 14 rfl (by kernel_rfl) (by kernel_rfl) (by kernel_rfl) (Mac_any 1 2 (by decide) (by decide) 3 4 (by decide) (by decide) M HM.out _ (HTV.out.below B3)) (fun w' h => bel_in B3 h) ?_
  intro W4 hW4
  have B4 := bel_in B3 hW4
  clear hW4 B3
  refine held_free 16 (.bool true) rfl (by kernel_rfl) (by kernel_rfl) (by kernel_rfl) (by kernel_rfl) B4 (fun _ _ => ex_digeq 32 (.tmp 41) (.tmp 42) (by kernel_rfl) (macn 1 2 3 4) (macn_length _ _ _ _) M HM.out (by kernel_rfl) (by kernel_rfl)) ?_
  refine held_free 17 (.bool true) rfl (by kernel_rfl) (by kernel_rfl) (by kernel_rfl) (by kernel_rfl) B4 (fun _ _ => by kernel_rfl) ?_
  refine held_free 18 (.bool true) rfl (by kernel_rfl) (by kernel_rfl) (by kernel_rfl) (by kernel_rfl) B4 (fun _ _ => by kernel_rfl) ?_
  refine held_free 19 (.agg #[.int .i64 7, .string ⟨#[10, 0, 0, 1]⟩, .bool true, .int .i64 80]) rfl (by kernel_rfl) (by kernel_rfl) (by kernel_rfl) (by kernel_rfl) B4 (fun W b => exec_row_ 38 (.tmp 8) (by kernel_rfl) gx (by kernel_rfl) 38 _ (0, 0) _ (HKX.out.below b HKX.out.lt) Tryd.underlying38 rfl (by kernel_rfl)) ?_
  refine held_free 21 (.string L) rfl (by kernel_rfl) (by kernel_rfl) (by kernel_rfl) (by kernel_rfl) B4 (fun _ _ => by kernel_rfl) ?_
  refine held_call 20 rfl (by kernel_rfl) (by kernel_rfl) (by kernel_rfl) (Address_any 1 2 (by decide) (by decide) 7 ⟨#[10, 0, 0, 1]⟩ (by decide) true 80 7 80 (by decide) (by decide) L HL.out _ (HTV.out.below B4)) (fun w' h => bel_in B4 h) ?_
  intro W5 hW5
  have B5 := bel_in B4 hW5
  clear hW5 B4
  refine held_free 22 (.bool true) rfl (by kernel_rfl) (by kernel_rfl) (by kernel_rfl) (by kernel_rfl) B5 (fun _ _ => ex_streq 9 9 (.tmp 47) (.tmp 48) (by kernel_rfl) (L) (L) (by kernel_rfl) (by kernel_rfl) (by kernel_rfl) rfl) ?_
  refine held_free 23 (.bool true) rfl (by kernel_rfl) (by kernel_rfl) (by kernel_rfl) (by kernel_rfl) B5 (fun _ _ => by kernel_rfl) ?_
  refine held_free 24 (.bool true) rfl (by kernel_rfl) (by kernel_rfl) (by kernel_rfl) (by kernel_rfl) B5 (fun _ _ => by kernel_rfl) ?_
  refine held_free 25 (.string L) rfl (by kernel_rfl) (by kernel_rfl) (by kernel_rfl) (by kernel_rfl) B5 (fun _ _ => by kernel_rfl) ?_
  refine held_free 26 (.int .i64 (L.size : Int)) rfl (by kernel_rfl) (by kernel_rfl) (by kernel_rfl) (by kernel_rfl) B5 (fun _ _ => by kernel_rfl) ?_
  refine held_free 27 (.bool true) rfl (by kernel_rfl) (by kernel_rfl) (by kernel_rfl) (by kernel_rfl) B5 (fun _ _ => ex_inteq .i64 3 3 (.tmp 53) (.const (.int .i64 8)) (by kernel_rfl) ((L.size : Int)) (8) (by kernel_rfl) (by kernel_rfl) (by kernel_rfl) (by rw [HLS.out]; rfl)) ?_
  refine held_free 28 (.bool true) rfl (by kernel_rfl) (by kernel_rfl) (by kernel_rfl) (by kernel_rfl) B5 (fun _ _ => by kernel_rfl) ?_
  refine held_free 29 (.bool true) rfl (by kernel_rfl) (by kernel_rfl) (by kernel_rfl) (by kernel_rfl) B5 (fun _ _ => by kernel_rfl) ?_
  refine held_end (by kernel_rfl) ?_
  go_wp2_with fail
  exact ret_slot 0 (.bool true) (by kernel_rfl) (by kernel_rfl) (by kernel_rfl) ⟨rfl, HBV.out.trans (B5.mono HBV.out.size)⟩
end Go.Proofs.YtcbakfnpbhgjoaaDoor
