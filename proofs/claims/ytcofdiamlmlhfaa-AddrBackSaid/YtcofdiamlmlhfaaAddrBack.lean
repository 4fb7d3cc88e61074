/-
  AddrBack returns true for all pairs of drafts, and texts. No conditions.
-/
import Derived.Test.YtcofdiamlmlhfaaAddrMore
import Derived.WalkKit
import Derived.ProofKit
import Derived.OpenShut
import Derived.ShutString
import Derived.ChangeOld
import Derived.Below
import Derived.SizedLaws
namespace Go.Proofs.Ytcofdiamlmlhfaa.addrBack
open Go.ChangeShapes Go.WideShapes Go.ChangeAt Go.RowKit
open Go.ChangeMaps (open_string shut_string)
set_option linter.unusedVariables false

/-- A front of a text with a zero behind it, 37 bytes at most. -/
theorem front_ids (s : ByteArray) : ∃ (m : Nat) (z : ByteArray), z = (s ++ ⟨#[0]⟩).extract 0 m ∧ z.size = m ∧ min ((s.size : Int) + 1) 37 = (m : Int) ∧ (m : Int) ≤ (s ++ ⟨#[0]⟩ : ByteArray).size ∧ 1 ≤ m ∧ m ≤ 37 := by
  have hs : (s ++ ⟨#[0]⟩ : ByteArray).size = s.size + 1 := by rw [ByteArray.size_append]; rfl
  refine ⟨min (s.size + 1) 37, _, rfl, ?_, ?_, ?_, ?_, ?_⟩
  · rw [ByteArray.size_extract]; omega
  · omega
  · omega
  · omega
  · omega
set_option maxHeartbeats 4000000 in
set_option maxRecDepth 100000 in
theorem walk (d : Dr) (hd : d.Ok) (f : Dr) (hf : f.Ok) (ids : ByteArray) (hids : ids.size ≤ 140737488351232) (w : World) :
    Calls Try.prog 5 #[.agg (drv d), .agg (drv f), .string ids] w fun e w' => e = .returned (.bool true) ∧ Below w.heap.size w w' := by
  obtain ⟨w0, hw0⟩ : ∃ V, V = (w.alloc (.cells (drv d) 35)).alloc (.cells (drv f) 35) := ⟨_, rfl⟩
  obtain ⟨b0, hb0⟩ : ∃ b0, b0 = w.heap.size := ⟨_, rfl⟩
  obtain ⟨b1, hb1⟩ : ∃ b1, b1 = w.heap.size + 1 := ⟨_, rfl⟩
  have HX0 := Lib.hid (show Blk w0 b0 35 (drv d) by rw [hw0, hb0]; exact (Blk.new _ _ _).alloc _)
  have HY0 := Lib.hid (show Blk w0 b1 35 (drv f) by
    rw [hw0, hb1]
    have := Blk.new (w.alloc (.cells (drv d) 35)) 35 (drv f)
    simpa using this)
  have HB0 := Lib.hid (show Below w.heap.size w w0 by rw [hw0]; exact ((Below.refl _ w).alloc (Nat.le_refl _) _).alloc (by simp) _)
  have HW0 := Lib.hid hw0
  have HE0 := Lib.hid hb0
  have HE1 := Lib.hid hb1
  have HD := Lib.hid hd
  have HF := Lib.hid hf
  obtain ⟨x, hx⟩ : ∃ x, x = d.ad := ⟨_, rfl⟩
  obtain ⟨y, hy⟩ : ∃ y, y = f.ad := ⟨_, rfl⟩
  have HXM := Lib.hid (show x.May by rw [hx]; exact d.ad_may hd)
  have HYM := Lib.hid (show y.May by rw [hy]; exact f.ad_may hf)
  have HCX := Lib.hid (show ∀ W, Calls Try.prog 14 #[.agg (drv d)] W fun e w' => e = .returned (.agg (adv x)) ∧ Below W.heap.size W w' from fun W => by rw [hx]; exact Draft_any d hd W)
  have HCY := Lib.hid (show ∀ W, Calls Try.prog 14 #[.agg (drv f)] W fun e w' => e = .returned (.agg (adv y)) ∧ Below W.heap.size W w' from fun W => by rw [hy]; exact Draft_any f hf W)
  obtain ⟨m2, J, hJ, nJ, mJ, lJ, kJ, uJ⟩ := front_ids ids
  have HMJ := Lib.hid mJ
  obtain ⟨L, hL⟩ : ∃ L, L = ids ++ (⟨#[0]⟩ : ByteArray) := ⟨_, rfl⟩
  rw [← hL] at hJ lJ
  have HJ := Lib.hid hJ
  have HLJ := Lib.hid lJ
  have HLL := Lib.hid hL
  have HIDS := Lib.hid hids
  have HJS := Lib.hid (show 1 ≤ J.size ∧ J.size ≤ 37 by omega)
  obtain ⟨R, hR⟩ : ∃ R, R = txt (64 :: J.data.toList) := ⟨_, rfl⟩
  have HER := Lib.hid (show encRV J = .tuple #[.string R, .int .i64 0] by rw [encRV_t J HJS.out, hR])
  have HRS := Lib.hid (show R.size = J.size + 1 by rw [hR, one_size, len_data])
  have HDR := Lib.hid (show decV R = .tuple #[.agg (adv Ad.zero), .int .i64 7] from decV_eq _ _ _ (decA_kind R (by rw [hR, one_size]; omega) (by rw [hR, one_0]; decide)))
  have HRE := Lib.hid hR
  clear hw0 hb0 hb1 hd hf hx hy hJ nJ mJ lJ kJ uJ hL hids hR
  go_enter Try.func5, Try.ntmps5
  go_wp2_with fail
  rw [← HW0.out]
  refine (works_t w0).mono ?_
  rintro e V ⟨rfl, b⟩
  have HX := Lib.hid (HX0.out.below b HX0.out.lt)
  have HY := Lib.hid (HY0.out.below b HY0.out.lt)
  have HBV := Lib.hid (HB0.out.trans (b.mono HB0.out.size))
  clear b HX0 HY0 HB0 HW0
  go_upto_region 3 with fail
  rw [← HE1.out, ← HE0.out]
  go_cut [7, 8] (fun s t wx => ∃ p q, s = .pointer (some ⟨p, 0, none⟩) ∧ t = .pointer (some ⟨q, 0, none⟩) ∧ Blk wx p 23 (adv x) ∧ Blk wx q 23 (adv y) ∧ Below V.heap.size V wx)
  case first =>
    have B0 : Below V.heap.size V V.drew := (Below.refl _ V).drew
    refine walk_start 7 (fun W => Below V.heap.size V W) (by kernel_rfl) (n := 8) rfl ?_
    obtain ⟨W0, hW0⟩ : ∃ W0, W0 = V.drew := ⟨_, rfl⟩
    rw [← hW0] at B0 ⊢
    clear hW0
    refine walk_free 0 (.agg (drv d)) rfl (by kernel_rfl) (by kernel_rfl) (by kernel_rfl) (by kernel_rfl) (by kernel_rfl) (by kernel_rfl) B0 (fun W b => exec_row_ 35 (.tmp 3) (by kernel_rfl) b0 (by kernel_rfl) 35 _ (0, 0) _ (HX.out.below b HX.out.lt) Try.underlying35 rfl (drv_info d HD.out.b)) ?_
    refine walk_free 2 (.agg (drv f)) rfl (by kernel_rfl) (by kernel_rfl) (by kernel_rfl) (by kernel_rfl) (by kernel_rfl) (by kernel_rfl) B0 (fun W b => exec_row_ 35 (.tmp 4) (by kernel_rfl) b1 (by kernel_rfl) 35 _ (0, 0) _ (HY.out.below b HY.out.lt) Try.underlying35 rfl (drv_info f HF.out.b)) ?_
    refine walk_three 1 4 5 (by kernel_rfl) ?_ ?_ ?_
    · refine do_call 1 rfl (by kernel_rfl) (by kernel_rfl) (HCX.out _) (fun w' h => bel_in B0 h) ?_
      intro W1 hW1
      have B1 := bel_in B0 hW1
      clear hW1 B0
      refine walk_three 3 4 5 (by kernel_rfl) ?_ ?_ ?_
      · refine do_call 3 rfl (by kernel_rfl) (by kernel_rfl) (HCY.out _) (fun w' h => bel_in B1 h) ?_
        intro W2 hW2
        have B2 := bel_in B1 hW2
        clear hW2 B1
        refine walk_two 4 5 (by kernel_rfl) ?_ ?_
        · obtain ⟨W3, hW3⟩ : ∃ w', w' = W2.alloc (.cells #[.bool false, .int .i64 0, .string ⟨#[]⟩, .bool false, .int .i64 0, .string ⟨#[]⟩] 23) := ⟨_, rfl⟩
          obtain ⟨g3, hg3⟩ : ∃ g, g = W2.heap.size := ⟨_, rfl⟩
          have N3 : Blk W3 g3 23 #[.bool false, .int .i64 0, .string ⟨#[]⟩, .bool false, .int .i64 0, .string ⟨#[]⟩] := by rw [hW3, hg3]; exact Blk.new _ _ _
          have B3 : Below V.heap.size V W3 := by rw [hW3]; exact B2.alloc B2.size _
          have L3 : V.heap.size ≤ g3 := by rw [hg3]; exact B2.size
          refine do_lone (v := .pointer (some ⟨g3, 0, none⟩)) (w' := W3) 4 rfl (by kernel_rfl) (by rw [hW3, hg3]; exact ex_alloc 23 #[.bool false, .int .i64 0, .string ⟨#[]⟩, .bool false, .int .i64 0, .string ⟨#[]⟩] (by kernel_rfl) ad_zero) B3 ?_
          clear hW3 hg3 B2
          obtain ⟨W4, hW4⟩ : ∃ w', w' = W3.alloc (.cells #[.bool false, .int .i64 0, .string ⟨#[]⟩, .bool false, .int .i64 0, .string ⟨#[]⟩] 23) := ⟨_, rfl⟩
          obtain ⟨g4, hg4⟩ : ∃ g, g = W3.heap.size := ⟨_, rfl⟩
          have N4 : Blk W4 g4 23 #[.bool false, .int .i64 0, .string ⟨#[]⟩, .bool false, .int .i64 0, .string ⟨#[]⟩] := by rw [hW4, hg4]; exact Blk.new _ _ _
          have B4 : Below V.heap.size V W4 := by rw [hW4]; exact B3.alloc B3.size _
          have L4 : V.heap.size ≤ g4 := by rw [hg4]; exact B3.size
          have N4_4 : Blk W4 g3 23 #[.bool false, .int .i64 0, .string ⟨#[]⟩, .bool false, .int .i64 0, .string ⟨#[]⟩] := by rw [hW4]; exact N3.alloc _
          have E4_4 : g3 ≠ g4 := by rw [hg4]; exact Nat.ne_of_lt N3.lt
          refine walk_one 5 (by kernel_rfl) (do_lone (v := .pointer (some ⟨g4, 0, none⟩)) (w' := W4) 5 rfl (by kernel_rfl) (by rw [hW4, hg4]; exact ex_alloc 23 #[.bool false, .int .i64 0, .string ⟨#[]⟩, .bool false, .int .i64 0, .string ⟨#[]⟩] (by kernel_rfl) ad_zero) B4 ?_)
          clear hW4 hg4 B3 N3
          obtain ⟨W5, hW5⟩ : ∃ w', w' = W4.setRow g3 (adv x) := ⟨_, rfl⟩
          have N5_4 : Blk W5 g3 23 (adv x) := by rw [hW5]; exact setRow_heap _ _ _ _ _ _ N4_4
          have B5 : Below V.heap.size V W5 := by rw [hW5]; exact below_setRow B4 L3 _
          have N5_5 : Blk W5 g4 23 #[.bool false, .int .i64 0, .string ⟨#[]⟩, .bool false, .int .i64 0, .string ⟨#[]⟩] := by rw [hW5]; exact N4.same (setRow_other _ _ _ _ (Ne.symm E4_4))
          refine walk_one 6 (by kernel_rfl) (do_skip (w' := W5) 6 rfl (by kernel_rfl) (by rw [hW5]; exact ex_store_row 23 (.tmp 7) (.tmp 23) (by kernel_rfl) g3 (adv x) (by kernel_rfl) (by kernel_rfl) 23 #[.bool false, .int .i64 0, .string ⟨#[]⟩, .bool false, .int .i64 0, .string ⟨#[]⟩] N4_4 ad_size rfl (ad_one _)) B5 ?_)
          clear hW5 B4 N4_4 N4
          obtain ⟨W6, hW6⟩ : ∃ w', w' = W5.setRow g4 (adv y) := ⟨_, rfl⟩
          have N6_5 : Blk W6 g4 23 (adv y) := by rw [hW6]; exact setRow_heap _ _ _ _ _ _ N5_5
          have B6 : Below V.heap.size V W6 := by rw [hW6]; exact below_setRow B5 L4 _
          have N6_4 : Blk W6 g3 23 (adv x) := by rw [hW6]; exact N5_4.same (setRow_other _ _ _ _ E4_4)
          refine walk_one 7 (by kernel_rfl) (do_skip (w' := W6) 7 rfl (by kernel_rfl) (by rw [hW6]; exact ex_store_row 23 (.tmp 8) (.tmp 25) (by kernel_rfl) g4 (adv y) (by kernel_rfl) (by kernel_rfl) 23 #[.bool false, .int .i64 0, .string ⟨#[]⟩, .bool false, .int .i64 0, .string ⟨#[]⟩] N5_5 ad_size rfl (ad_one _)) B6 ?_)
          clear hW6 B5 N5_4 N5_5
          refine walk_end_at ⟨#[.agg (drv d), .agg (drv f), .string ids, .pointer (some ⟨b0, 0, none⟩), .pointer (some ⟨b1, 0, none⟩), undef, .bool false, .pointer (some ⟨g3, 0, none⟩), .pointer (some ⟨g4, 0, none⟩), undef, undef, undef, undef, undef, undef, undef, undef, undef, undef, undef, .bool true, .bool false, .agg (drv d), .agg (adv x), .agg (drv f), .agg (adv y), undef, undef, undef, undef, undef, undef, undef, undef, undef, undef, undef, undef, undef, undef, undef, undef, undef, undef, undef, undef, undef, undef, undef, undef, undef, undef, undef, undef, undef, undef, undef, undef, undef, undef, undef, undef, undef, undef, undef, undef, undef, undef, undef, undef, undef, undef, undef, undef, undef, undef, undef, undef, undef, undef, undef, undef, undef, undef, undef, undef, undef, undef, undef, undef, undef, undef, undef, undef, undef, undef, undef, undef, undef, undef, undef, undef, undef, undef, undef, undef, undef, undef, undef, undef, undef, undef, undef, undef, undef, undef, undef, undef, undef, undef, undef, undef, undef, undef, undef, undef, undef], []⟩ (by kernel_rfl) (by kernel_rfl) ?_
          have HL := Lib.hid (show Blk W6 g3 23 (adv x) ∧ Blk W6 g4 23 (adv y) ∧ Below V.heap.size V W6 from ⟨N6_4, N6_5, B6⟩)
          clear N6_4 N6_5
          go_wp2_with fail
          go_meet
          exact ⟨_, _, rfl, rfl, HL.out⟩
        · obtain ⟨W7, hW7⟩ : ∃ w', w' = W2.alloc (.cells #[.bool false, .int .i64 0, .string ⟨#[]⟩, .bool false, .int .i64 0, .string ⟨#[]⟩] 23) := ⟨_, rfl⟩
          obtain ⟨g7, hg7⟩ : ∃ g, g = W2.heap.size := ⟨_, rfl⟩
          have N7 : Blk W7 g7 23 #[.bool false, .int .i64 0, .string ⟨#[]⟩, .bool false, .int .i64 0, .string ⟨#[]⟩] := by rw [hW7, hg7]; exact Blk.new _ _ _
          have B7 : Below V.heap.size V W7 := by rw [hW7]; exact B2.alloc B2.size _
          have L7 : V.heap.size ≤ g7 := by rw [hg7]; exact B2.size
          refine do_lone (v := .pointer (some ⟨g7, 0, none⟩)) (w' := W7) 5 rfl (by kernel_rfl) (by rw [hW7, hg7]; exact ex_alloc 23 #[.bool false, .int .i64 0, .string ⟨#[]⟩, .bool false, .int .i64 0, .string ⟨#[]⟩] (by kernel_rfl) ad_zero) B7 ?_
          clear hW7 hg7 B2
          obtain ⟨W8, hW8⟩ : ∃ w', w' = W7.alloc (.cells #[.bool false, .int .i64 0, .string ⟨#[]⟩, .bool false, .int .i64 0, .string ⟨#[]⟩] 23) := ⟨_, rfl⟩
          obtain ⟨g8, hg8⟩ : ∃ g, g = W7.heap.size := ⟨_, rfl⟩
          have N8 : Blk W8 g8 23 #[.bool false, .int .i64 0, .string ⟨#[]⟩, .bool false, .int .i64 0, .string ⟨#[]⟩] := by rw [hW8, hg8]; exact Blk.new _ _ _
          have B8 : Below V.heap.size V W8 := by rw [hW8]; exact B7.alloc B7.size _
          have L8 : V.heap.size ≤ g8 := by rw [hg8]; exact B7.size
          have N8_5 : Blk W8 g7 23 #[.bool false, .int .i64 0, .string ⟨#[]⟩, .bool false, .int .i64 0, .string ⟨#[]⟩] := by rw [hW8]; exact N7.alloc _
          have E8_5 : g7 ≠ g8 := by rw [hg8]; exact Nat.ne_of_lt N7.lt
          refine walk_one 4 (by kernel_rfl) (do_lone (v := .pointer (some ⟨g8, 0, none⟩)) (w' := W8) 4 rfl (by kernel_rfl) (by rw [hW8, hg8]; exact ex_alloc 23 #[.bool false, .int .i64 0, .string ⟨#[]⟩, .bool false, .int .i64 0, .string ⟨#[]⟩] (by kernel_rfl) ad_zero) B8 ?_)
          clear hW8 hg8 B7 N7
          obtain ⟨W9, hW9⟩ : ∃ w', w' = W8.setRow g8 (adv x) := ⟨_, rfl⟩
          have N9_4 : Blk W9 g8 23 (adv x) := by rw [hW9]; exact setRow_heap _ _ _ _ _ _ N8
          have B9 : Below V.heap.size V W9 := by rw [hW9]; exact below_setRow B8 L8 _
          have N9_5 : Blk W9 g7 23 #[.bool false, .int .i64 0, .string ⟨#[]⟩, .bool false, .int .i64 0, .string ⟨#[]⟩] := by rw [hW9]; exact N8_5.same (setRow_other _ _ _ _ E8_5)
          refine walk_one 6 (by kernel_rfl) (do_skip (w' := W9) 6 rfl (by kernel_rfl) (by rw [hW9]; exact ex_store_row 23 (.tmp 7) (.tmp 23) (by kernel_rfl) g8 (adv x) (by kernel_rfl) (by kernel_rfl) 23 #[.bool false, .int .i64 0, .string ⟨#[]⟩, .bool false, .int .i64 0, .string ⟨#[]⟩] N8 ad_size rfl (ad_one _)) B9 ?_)
          clear hW9 B8 N8_5 N8
          obtain ⟨W10, hW10⟩ : ∃ w', w' = W9.setRow g7 (adv y) := ⟨_, rfl⟩
          have N10_5 : Blk W10 g7 23 (adv y) := by rw [hW10]; exact setRow_heap _ _ _ _ _ _ N9_5
          have B10 : Below V.heap.size V W10 := by rw [hW10]; exact below_setRow B9 L7 _
          have N10_4 : Blk W10 g8 23 (adv x) := by rw [hW10]; exact N9_4.same (setRow_other _ _ _ _ (Ne.symm E8_5))
          refine walk_one 7 (by kernel_rfl) (do_skip (w' := W10) 7 rfl (by kernel_rfl) (by rw [hW10]; exact ex_store_row 23 (.tmp 8) (.tmp 25) (by kernel_rfl) g7 (adv y) (by kernel_rfl) (by kernel_rfl) 23 #[.bool false, .int .i64 0, .string ⟨#[]⟩, .bool false, .int .i64 0, .string ⟨#[]⟩] N9_5 ad_size rfl (ad_one _)) B10 ?_)
          clear hW10 B9 N9_4 N9_5
          refine walk_end_at ⟨#[.agg (drv d), .agg (drv f), .string ids, .pointer (some ⟨b0, 0, none⟩), .pointer (some ⟨b1, 0, none⟩), undef, .bool false, .pointer (some ⟨g8, 0, none⟩), .pointer (some ⟨g7, 0, none⟩), undef, undef, undef, undef, undef, undef, undef, undef, undef, undef, undef, .bool true, .bool false, .agg (drv d), .agg (adv x), .agg (drv f), .agg (adv y), undef, undef, undef, undef, undef, undef, undef, undef, undef, undef, undef, undef, undef, undef, undef, undef, undef, undef, undef, undef, undef, undef, undef, undef, undef, undef, undef, undef, undef, undef, undef, undef, undef, undef, undef, undef, undef, undef, undef, undef, undef, undef, undef, undef, undef, undef, undef, undef, undef, undef, undef, undef, undef, undef, undef, undef, undef, undef, undef, undef, undef, undef, undef, undef, undef, undef, undef, undef, undef, undef, undef, undef, undef, undef, undef, undef, undef, undef, undef, undef, undef, undef, undef, undef, undef, undef, undef, undef, undef, undef, undef, undef, undef, undef, undef, undef, undef, undef, undef, undef, undef], []⟩ (by kernel_rfl) (by kernel_rfl) ?_
          have HL := Lib.hid (show Blk W10 g8 23 (adv x) ∧ Blk W10 g7 23 (adv y) ∧ Below V.heap.size V W10 from ⟨N10_4, N10_5, B10⟩)
          clear N10_4 N10_5
          go_wp2_with fail
          go_meet
          exact ⟨_, _, rfl, rfl, HL.out⟩
      · obtain ⟨W11, hW11⟩ : ∃ w', w' = W1.alloc (.cells #[.bool false, .int .i64 0, .string ⟨#[]⟩, .bool false, .int .i64 0, .string ⟨#[]⟩] 23) := ⟨_, rfl⟩
        obtain ⟨g11, hg11⟩ : ∃ g, g = W1.heap.size := ⟨_, rfl⟩
        have N11 : Blk W11 g11 23 #[.bool false, .int .i64 0, .string ⟨#[]⟩, .bool false, .int .i64 0, .string ⟨#[]⟩] := by rw [hW11, hg11]; exact Blk.new _ _ _
        have B11 : Below V.heap.size V W11 := by rw [hW11]; exact B1.alloc B1.size _
        have L11 : V.heap.size ≤ g11 := by rw [hg11]; exact B1.size
        refine do_lone (v := .pointer (some ⟨g11, 0, none⟩)) (w' := W11) 4 rfl (by kernel_rfl) (by rw [hW11, hg11]; exact ex_alloc 23 #[.bool false, .int .i64 0, .string ⟨#[]⟩, .bool false, .int .i64 0, .string ⟨#[]⟩] (by kernel_rfl) ad_zero) B11 ?_
        clear hW11 hg11 B1
        refine walk_two 3 5 (by kernel_rfl) ?_ ?_
        · refine do_call 3 rfl (by kernel_rfl) (by kernel_rfl) (HCY.out _) (fun w' h => bel_in B11 h) ?_
          intro W12 hW12
          have B12 := bel_in B11 hW12
          have N12_4 := N11.below hW12 N11.lt
          clear hW12 B11 N11
          obtain ⟨W13, hW13⟩ : ∃ w', w' = W12.alloc (.cells #[.bool false, .int .i64 0, .string ⟨#[]⟩, .bool false, .int .i64 0, .string ⟨#[]⟩] 23) := ⟨_, rfl⟩
          obtain ⟨g13, hg13⟩ : ∃ g, g = W12.heap.size := ⟨_, rfl⟩
          have N13 : Blk W13 g13 23 #[.bool false, .int .i64 0, .string ⟨#[]⟩, .bool false, .int .i64 0, .string ⟨#[]⟩] := by rw [hW13, hg13]; exact Blk.new _ _ _
          have B13 : Below V.heap.size V W13 := by rw [hW13]; exact B12.alloc B12.size _
          have L13 : V.heap.size ≤ g13 := by rw [hg13]; exact B12.size
          have N13_4 : Blk W13 g11 23 #[.bool false, .int .i64 0, .string ⟨#[]⟩, .bool false, .int .i64 0, .string ⟨#[]⟩] := by rw [hW13]; exact N12_4.alloc _
          have E13_4 : g11 ≠ g13 := by rw [hg13]; exact Nat.ne_of_lt N12_4.lt
          refine walk_one 5 (by kernel_rfl) (do_lone (v := .pointer (some ⟨g13, 0, none⟩)) (w' := W13) 5 rfl (by kernel_rfl) (by rw [hW13, hg13]; exact ex_alloc 23 #[.bool false, .int .i64 0, .string ⟨#[]⟩, .bool false, .int .i64 0, .string ⟨#[]⟩] (by kernel_rfl) ad_zero) B13 ?_)
          clear hW13 hg13 B12 N12_4
          obtain ⟨W14, hW14⟩ : ∃ w', w' = W13.setRow g11 (adv x) := ⟨_, rfl⟩
          have N14_4 : Blk W14 g11 23 (adv x) := by rw [hW14]; exact setRow_heap _ _ _ _ _ _ N13_4
          have B14 : Below V.heap.size V W14 := by rw [hW14]; exact below_setRow B13 L11 _
          have N14_5 : Blk W14 g13 23 #[.bool false, .int .i64 0, .string ⟨#[]⟩, .bool false, .int .i64 0, .string ⟨#[]⟩] := by rw [hW14]; exact N13.same (setRow_other _ _ _ _ (Ne.symm E13_4))
          refine walk_one 6 (by kernel_rfl) (do_skip (w' := W14) 6 rfl (by kernel_rfl) (by rw [hW14]; exact ex_store_row 23 (.tmp 7) (.tmp 23) (by kernel_rfl) g11 (adv x) (by kernel_rfl) (by kernel_rfl) 23 #[.bool false, .int .i64 0, .string ⟨#[]⟩, .bool false, .int .i64 0, .string ⟨#[]⟩] N13_4 ad_size rfl (ad_one _)) B14 ?_)
          clear hW14 B13 N13_4 N13
          obtain ⟨W15, hW15⟩ : ∃ w', w' = W14.setRow g13 (adv y) := ⟨_, rfl⟩
          have N15_5 : Blk W15 g13 23 (adv y) := by rw [hW15]; exact setRow_heap _ _ _ _ _ _ N14_5
          have B15 : Below V.heap.size V W15 := by rw [hW15]; exact below_setRow B14 L13 _
          have N15_4 : Blk W15 g11 23 (adv x) := by rw [hW15]; exact N14_4.same (setRow_other _ _ _ _ E13_4)
          refine walk_one 7 (by kernel_rfl) (do_skip (w' := W15) 7 rfl (by kernel_rfl) (by rw [hW15]; exact ex_store_row 23 (.tmp 8) (.tmp 25) (by kernel_rfl) g13 (adv y) (by kernel_rfl) (by kernel_rfl) 23 #[.bool false, .int .i64 0, .string ⟨#[]⟩, .bool false, .int .i64 0, .string ⟨#[]⟩] N14_5 ad_size rfl (ad_one _)) B15 ?_)
          clear hW15 B14 N14_4 N14_5
          refine walk_end_at ⟨#[.agg (drv d), .agg (drv f), .string ids, .pointer (some ⟨b0, 0, none⟩), .pointer (some ⟨b1, 0, none⟩), undef, .bool false, .pointer (some ⟨g11, 0, none⟩), .pointer (some ⟨g13, 0, none⟩), undef, undef, undef, undef, undef, undef, undef, undef, undef, undef, undef, .bool true, .bool false, .agg (drv d), .agg (adv x), .agg (drv f), .agg (adv y), undef, undef, undef, undef, undef, undef, undef, undef, undef, undef, undef, undef, undef, undef, undef, undef, undef, undef, undef, undef, undef, undef, undef, undef, undef, undef, undef, undef, undef, undef, undef, undef, undef, undef, undef, undef, undef, undef, undef, undef, undef, undef, undef, undef, undef, undef, undef, undef, undef, undef, undef, undef, undef, undef, undef, undef, undef, undef, undef, undef, undef, undef, undef, undef, undef, undef, undef, undef, undef, undef, undef, undef, undef, undef, undef, undef, undef, undef, undef, undef, undef, undef, undef, undef, undef, undef, undef, undef, undef, undef, undef, undef, undef, undef, undef, undef, undef, undef, undef, undef, undef], []⟩ (by kernel_rfl) (by kernel_rfl) ?_
          have HL := Lib.hid (show Blk W15 g11 23 (adv x) ∧ Blk W15 g13 23 (adv y) ∧ Below V.heap.size V W15 from ⟨N15_4, N15_5, B15⟩)
          clear N15_4 N15_5
          go_wp2_with fail
          go_meet
          exact ⟨_, _, rfl, rfl, HL.out⟩
        · obtain ⟨W16, hW16⟩ : ∃ w', w' = W11.alloc (.cells #[.bool false, .int .i64 0, .string ⟨#[]⟩, .bool false, .int .i64 0, .string ⟨#[]⟩] 23) := ⟨_, rfl⟩
          obtain ⟨g16, hg16⟩ : ∃ g, g = W11.heap.size := ⟨_, rfl⟩
          have N16 : Blk W16 g16 23 #[.bool false, .int .i64 0, .string ⟨#[]⟩, .bool false, .int .i64 0, .string ⟨#[]⟩] := by rw [hW16, hg16]; exact Blk.new _ _ _
          have B16 : Below V.heap.size V W16 := by rw [hW16]; exact B11.alloc B11.size _
          have L16 : V.heap.size ≤ g16 := by rw [hg16]; exact B11.size
          have N16_4 : Blk W16 g11 23 #[.bool false, .int .i64 0, .string ⟨#[]⟩, .bool false, .int .i64 0, .string ⟨#[]⟩] := by rw [hW16]; exact N11.alloc _
          have E16_4 : g11 ≠ g16 := by rw [hg16]; exact Nat.ne_of_lt N11.lt
          refine do_lone (v := .pointer (some ⟨g16, 0, none⟩)) (w' := W16) 5 rfl (by kernel_rfl) (by rw [hW16, hg16]; exact ex_alloc 23 #[.bool false, .int .i64 0, .string ⟨#[]⟩, .bool false, .int .i64 0, .string ⟨#[]⟩] (by kernel_rfl) ad_zero) B16 ?_
          clear hW16 hg16 B11 N11
          refine walk_one 3 (by kernel_rfl) (do_call 3 rfl (by kernel_rfl) (by kernel_rfl) (HCY.out _) (fun w' h => bel_in B16 h) ?_)
          intro W17 hW17
          have B17 := bel_in B16 hW17
          have N17_4 := N16_4.below hW17 N16_4.lt
          have N17_5 := N16.below hW17 N16.lt
          clear hW17 B16 N16_4 N16
          obtain ⟨W18, hW18⟩ : ∃ w', w' = W17.setRow g11 (adv x) := ⟨_, rfl⟩
          have N18_4 : Blk W18 g11 23 (adv x) := by rw [hW18]; exact setRow_heap _ _ _ _ _ _ N17_4
          have B18 : Below V.heap.size V W18 := by rw [hW18]; exact below_setRow B17 L11 _
          have N18_5 : Blk W18 g16 23 #[.bool false, .int .i64 0, .string ⟨#[]⟩, .bool false, .int .i64 0, .string ⟨#[]⟩] := by rw [hW18]; exact N17_5.same (setRow_other _ _ _ _ (Ne.symm E16_4))
          refine walk_one 6 (by kernel_rfl) (do_skip (w' := W18) 6 rfl (by kernel_rfl) (by rw [hW18]; exact ex_store_row 23 (.tmp 7) (.tmp 23) (by kernel_rfl) g11 (adv x) (by kernel_rfl) (by kernel_rfl) 23 #[.bool false, .int .i64 0, .string ⟨#[]⟩, .bool false, .int .i64 0, .string ⟨#[]⟩] N17_4 ad_size rfl (ad_one _)) B18 ?_)
          clear hW18 B17 N17_4 N17_5
          obtain ⟨W19, hW19⟩ : ∃ w', w' = W18.setRow g16 (adv y) := ⟨_, rfl⟩
          have N19_5 : Blk W19 g16 23 (adv y) := by rw [hW19]; exact setRow_heap _ _ _ _ _ _ N18_5
          have B19 : Below V.heap.size V W19 := by rw [hW19]; exact below_setRow B18 L16 _
          have N19_4 : Blk W19 g11 23 (adv x) := by rw [hW19]; exact N18_4.same (setRow_other _ _ _ _ E16_4)
          refine walk_one 7 (by kernel_rfl) (do_skip (w' := W19) 7 rfl (by kernel_rfl) (by rw [hW19]; exact ex_store_row 23 (.tmp 8) (.tmp 25) (by kernel_rfl) g16 (adv y) (by kernel_rfl) (by kernel_rfl) 23 #[.bool false, .int .i64 0, .string ⟨#[]⟩, .bool false, .int .i64 0, .string ⟨#[]⟩] N18_5 ad_size rfl (ad_one _)) B19 ?_)
          clear hW19 B18 N18_4 N18_5
          refine walk_end_at ⟨#[.agg (drv d), .agg (drv f), .string ids, .pointer (some ⟨b0, 0, none⟩), .pointer (some ⟨b1, 0, none⟩), undef, .bool false, .pointer (some ⟨g11, 0, none⟩), .pointer (some ⟨g16, 0, none⟩), undef, undef, undef, undef, undef, undef, undef, undef, undef, undef, undef, .bool true, .bool false, .agg (drv d), .agg (adv x), .agg (drv f), .agg (adv y), undef, undef, undef, undef, undef, undef, undef, undef, undef, undef, undef, undef, undef, undef, undef, undef, undef, undef, undef, undef, undef, undef, undef, undef, undef, undef, undef, undef, undef, undef, undef, undef, undef, undef, undef, undef, undef, undef, undef, undef, undef, undef, undef, undef, undef, undef, undef, undef, undef, undef, undef, undef, undef, undef, undef, undef, undef, undef, undef, undef, undef, undef, undef, undef, undef, undef, undef, undef, undef, undef, undef, undef, undef, undef, undef, undef, undef, undef, undef, undef, undef, undef, undef, undef, undef, undef, undef, undef, undef, undef, undef, undef, undef, undef, undef, undef, undef, undef, undef, undef, undef], []⟩ (by kernel_rfl) (by kernel_rfl) ?_
          have HL := Lib.hid (show Blk W19 g11 23 (adv x) ∧ Blk W19 g16 23 (adv y) ∧ Below V.heap.size V W19 from ⟨N19_4, N19_5, B19⟩)
          clear N19_4 N19_5
          go_wp2_with fail
          go_meet
          exact ⟨_, _, rfl, rfl, HL.out⟩
      · obtain ⟨W20, hW20⟩ : ∃ w', w' = W1.alloc (.cells #[.bool false, .int .i64 0, .string ⟨#[]⟩, .bool false, .int .i64 0, .string ⟨#[]⟩] 23) := ⟨_, rfl⟩
        obtain ⟨g20, hg20⟩ : ∃ g, g = W1.heap.size := ⟨_, rfl⟩
        have N20 : Blk W20 g20 23 #[.bool false, .int .i64 0, .string ⟨#[]⟩, .bool false, .int .i64 0, .string ⟨#[]⟩] := by rw [hW20, hg20]; exact Blk.new _ _ _
        have B20 : Below V.heap.size V W20 := by rw [hW20]; exact B1.alloc B1.size _
        have L20 : V.heap.size ≤ g20 := by rw [hg20]; exact B1.size
        refine do_lone (v := .pointer (some ⟨g20, 0, none⟩)) (w' := W20) 5 rfl (by kernel_rfl) (by rw [hW20, hg20]; exact ex_alloc 23 #[.bool false, .int .i64 0, .string ⟨#[]⟩, .bool false, .int .i64 0, .string ⟨#[]⟩] (by kernel_rfl) ad_zero) B20 ?_
        clear hW20 hg20 B1
        refine walk_two 3 4 (by kernel_rfl) ?_ ?_
        · refine do_call 3 rfl (by kernel_rfl) (by kernel_rfl) (HCY.out _) (fun w' h => bel_in B20 h) ?_
          intro W21 hW21
          have B21 := bel_in B20 hW21
          have N21_5 := N20.below hW21 N20.lt
          clear hW21 B20 N20
          obtain ⟨W22, hW22⟩ : ∃ w', w' = W21.alloc (.cells #[.bool false, .int .i64 0, .string ⟨#[]⟩, .bool false, .int .i64 0, .string ⟨#[]⟩] 23) := ⟨_, rfl⟩
          obtain ⟨g22, hg22⟩ : ∃ g, g = W21.heap.size := ⟨_, rfl⟩
          have N22 : Blk W22 g22 23 #[.bool false, .int .i64 0, .string ⟨#[]⟩, .bool false, .int .i64 0, .string ⟨#[]⟩] := by rw [hW22, hg22]; exact Blk.new _ _ _
          have B22 : Below V.heap.size V W22 := by rw [hW22]; exact B21.alloc B21.size _
          have L22 : V.heap.size ≤ g22 := by rw [hg22]; exact B21.size
          have N22_5 : Blk W22 g20 23 #[.bool false, .int .i64 0, .string ⟨#[]⟩, .bool false, .int .i64 0, .string ⟨#[]⟩] := by rw [hW22]; exact N21_5.alloc _
          have E22_5 : g20 ≠ g22 := by rw [hg22]; exact Nat.ne_of_lt N21_5.lt
          refine walk_one 4 (by kernel_rfl) (do_lone (v := .pointer (some ⟨g22, 0, none⟩)) (w' := W22) 4 rfl (by kernel_rfl) (by rw [hW22, hg22]; exact ex_alloc 23 #[.bool false, .int .i64 0, .string ⟨#[]⟩, .bool false, .int .i64 0, .string ⟨#[]⟩] (by kernel_rfl) ad_zero) B22 ?_)
          clear hW22 hg22 B21 N21_5
          obtain ⟨W23, hW23⟩ : ∃ w', w' = W22.setRow g22 (adv x) := ⟨_, rfl⟩
          have N23_4 : Blk W23 g22 23 (adv x) := by rw [hW23]; exact setRow_heap _ _ _ _ _ _ N22
          have B23 : Below V.heap.size V W23 := by rw [hW23]; exact below_setRow B22 L22 _
          have N23_5 : Blk W23 g20 23 #[.bool false, .int .i64 0, .string ⟨#[]⟩, .bool false, .int .i64 0, .string ⟨#[]⟩] := by rw [hW23]; exact N22_5.same (setRow_other _ _ _ _ E22_5)
          refine walk_one 6 (by kernel_rfl) (do_skip (w' := W23) 6 rfl (by kernel_rfl) (by rw [hW23]; exact ex_store_row 23 (.tmp 7) (.tmp 23) (by kernel_rfl) g22 (adv x) (by kernel_rfl) (by kernel_rfl) 23 #[.bool false, .int .i64 0, .string ⟨#[]⟩, .bool false, .int .i64 0, .string ⟨#[]⟩] N22 ad_size rfl (ad_one _)) B23 ?_)
          clear hW23 B22 N22_5 N22
          obtain ⟨W24, hW24⟩ : ∃ w', w' = W23.setRow g20 (adv y) := ⟨_, rfl⟩
          have N24_5 : Blk W24 g20 23 (adv y) := by rw [hW24]; exact setRow_heap _ _ _ _ _ _ N23_5
          have B24 : Below V.heap.size V W24 := by rw [hW24]; exact below_setRow B23 L20 _
          have N24_4 : Blk W24 g22 23 (adv x) := by rw [hW24]; exact N23_4.same (setRow_other _ _ _ _ (Ne.symm E22_5))
          refine walk_one 7 (by kernel_rfl) (do_skip (w' := W24) 7 rfl (by kernel_rfl) (by rw [hW24]; exact ex_store_row 23 (.tmp 8) (.tmp 25) (by kernel_rfl) g20 (adv y) (by kernel_rfl) (by kernel_rfl) 23 #[.bool false, .int .i64 0, .string ⟨#[]⟩, .bool false, .int .i64 0, .string ⟨#[]⟩] N23_5 ad_size rfl (ad_one _)) B24 ?_)
          clear hW24 B23 N23_4 N23_5
          refine walk_end_at ⟨#[.agg (drv d), .agg (drv f), .string ids, .pointer (some ⟨b0, 0, none⟩), .pointer (some ⟨b1, 0, none⟩), undef, .bool false, .pointer (some ⟨g22, 0, none⟩), .pointer (some ⟨g20, 0, none⟩), undef, undef, undef, undef, undef, undef, undef, undef, undef, undef, undef, .bool true, .bool false, .agg (drv d), .agg (adv x), .agg (drv f), .agg (adv y), undef, undef, undef, undef, undef, undef, undef, undef, undef, undef, undef, undef, undef, undef, undef, undef, undef, undef, undef, undef, undef, undef, undef, undef, undef, undef, undef, undef, undef, undef, undef, undef, undef, undef, undef, undef, undef, undef, undef, undef, undef, undef, undef, undef, undef, undef, undef, undef, undef, undef, undef, undef, undef, undef, undef, undef, undef, undef, undef, undef, undef, undef, undef, undef, undef, undef, undef, undef, undef, undef, undef, undef, undef, undef, undef, undef, undef, undef, undef, undef, undef, undef, undef, undef, undef, undef, undef, undef, undef, undef, undef, undef, undef, undef, undef, undef, undef, undef, undef, undef, undef], []⟩ (by kernel_rfl) (by kernel_rfl) ?_
          have HL := Lib.hid (show Blk W24 g22 23 (adv x) ∧ Blk W24 g20 23 (adv y) ∧ Below V.heap.size V W24 from ⟨N24_4, N24_5, B24⟩)
          clear N24_4 N24_5
          go_wp2_with fail
          go_meet
          exact ⟨_, _, rfl, rfl, HL.out⟩
        · obtain ⟨W25, hW25⟩ : ∃ w', w' = W20.alloc (.cells #[.bool false, .int .i64 0, .string ⟨#[]⟩, .bool false, .int .i64 0, .string ⟨#[]⟩] 23) := ⟨_, rfl⟩
          obtain ⟨g25, hg25⟩ : ∃ g, g = W20.heap.size := ⟨_, rfl⟩
          have N25 : Blk W25 g25 23 #[.bool false, .int .i64 0, .string ⟨#[]⟩, .bool false, .int .i64 0, .string ⟨#[]⟩] := by rw [hW25, hg25]; exact Blk.new _ _ _
          have B25 : Below V.heap.size V W25 := by rw [hW25]; exact B20.alloc B20.size _
          have L25 : V.heap.size ≤ g25 := by rw [hg25]; exact B20.size
          have N25_5 : Blk W25 g20 23 #[.bool false, .int .i64 0, .string ⟨#[]⟩, .bool false, .int .i64 0, .string ⟨#[]⟩] := by rw [hW25]; exact N20.alloc _
          have E25_5 : g20 ≠ g25 := by rw [hg25]; exact Nat.ne_of_lt N20.lt
          refine do_lone (v := .pointer (some ⟨g25, 0, none⟩)) (w' := W25) 4 rfl (by kernel_rfl) (by rw [hW25, hg25]; exact ex_alloc 23 #[.bool false, .int .i64 0, .string ⟨#[]⟩, .bool false, .int .i64 0, .string ⟨#[]⟩] (by kernel_rfl) ad_zero) B25 ?_
          clear hW25 hg25 B20 N20
          refine walk_one 3 (by kernel_rfl) (do_call 3 rfl (by kernel_rfl) (by kernel_rfl) (HCY.out _) (fun w' h => bel_in B25 h) ?_)
          intro W26 hW26
          have B26 := bel_in B25 hW26
          have N26_5 := N25_5.below hW26 N25_5.lt
          have N26_4 := N25.below hW26 N25.lt
          clear hW26 B25 N25_5 N25
          obtain ⟨W27, hW27⟩ : ∃ w', w' = W26.setRow g25 (adv x) := ⟨_, rfl⟩
          have N27_4 : Blk W27 g25 23 (adv x) := by rw [hW27]; exact setRow_heap _ _ _ _ _ _ N26_4
          have B27 : Below V.heap.size V W27 := by rw [hW27]; exact below_setRow B26 L25 _
          have N27_5 : Blk W27 g20 23 #[.bool false, .int .i64 0, .string ⟨#[]⟩, .bool false, .int .i64 0, .string ⟨#[]⟩] := by rw [hW27]; exact N26_5.same (setRow_other _ _ _ _ E25_5)
          refine walk_one 6 (by kernel_rfl) (do_skip (w' := W27) 6 rfl (by kernel_rfl) (by rw [hW27]; exact ex_store_row 23 (.tmp 7) (.tmp 23) (by kernel_rfl) g25 (adv x) (by kernel_rfl) (by kernel_rfl) 23 #[.bool false, .int .i64 0, .string ⟨#[]⟩, .bool false, .int .i64 0, .string ⟨#[]⟩] N26_4 ad_size rfl (ad_one _)) B27 ?_)
          clear hW27 B26 N26_5 N26_4
          obtain ⟨W28, hW28⟩ : ∃ w', w' = W27.setRow g20 (adv y) := ⟨_, rfl⟩
          have N28_5 : Blk W28 g20 23 (adv y) := by rw [hW28]; exact setRow_heap _ _ _ _ _ _ N27_5
          have B28 : Below V.heap.size V W28 := by rw [hW28]; exact below_setRow B27 L20 _
          have N28_4 : Blk W28 g25 23 (adv x) := by rw [hW28]; exact N27_4.same (setRow_other _ _ _ _ (Ne.symm E25_5))
          refine walk_one 7 (by kernel_rfl) (do_skip (w' := W28) 7 rfl (by kernel_rfl) (by rw [hW28]; exact ex_store_row 23 (.tmp 8) (.tmp 25) (by kernel_rfl) g20 (adv y) (by kernel_rfl) (by kernel_rfl) 23 #[.bool false, .int .i64 0, .string ⟨#[]⟩, .bool false, .int .i64 0, .string ⟨#[]⟩] N27_5 ad_size rfl (ad_one _)) B28 ?_)
          clear hW28 B27 N27_4 N27_5
          refine walk_end_at ⟨#[.agg (drv d), .agg (drv f), .string ids, .pointer (some ⟨b0, 0, none⟩), .pointer (some ⟨b1, 0, none⟩), undef, .bool false, .pointer (some ⟨g25, 0, none⟩), .pointer (some ⟨g20, 0, none⟩), undef, undef, undef, undef, undef, undef, undef, undef, undef, undef, undef, .bool true, .bool false, .agg (drv d), .agg (adv x), .agg (drv f), .agg (adv y), undef, undef, undef, undef, undef, undef, undef, undef, undef, undef, undef, undef, undef, undef, undef, undef, undef, undef, undef, undef, undef, undef, undef, undef, undef, undef, undef, undef, undef, undef, undef, undef, undef, undef, undef, undef, undef, undef, undef, undef, undef, undef, undef, undef, undef, undef, undef, undef, undef, undef, undef, undef, undef, undef, undef, undef, undef, undef, undef, undef, undef, undef, undef, undef, undef, undef, undef, undef, undef, undef, undef, undef, undef, undef, undef, undef, undef, undef, undef, undef, undef, undef, undef, undef, undef, undef, undef, undef, undef, undef, undef, undef, undef, undef, undef, undef, undef, undef, undef, undef, undef], []⟩ (by kernel_rfl) (by kernel_rfl) ?_
          have HL := Lib.hid (show Blk W28 g25 23 (adv x) ∧ Blk W28 g20 23 (adv y) ∧ Below V.heap.size V W28 from ⟨N28_4, N28_5, B28⟩)
          clear N28_4 N28_5
          go_wp2_with fail
          go_meet
          exact ⟨_, _, rfl, rfl, HL.out⟩
    · obtain ⟨W29, hW29⟩ : ∃ w', w' = W0.alloc (.cells #[.bool false, .int .i64 0, .string ⟨#[]⟩, .bool false, .int .i64 0, .string ⟨#[]⟩] 23) := ⟨_, rfl⟩
      obtain ⟨g29, hg29⟩ : ∃ g, g = W0.heap.size := ⟨_, rfl⟩
      have N29 : Blk W29 g29 23 #[.bool false, .int .i64 0, .string ⟨#[]⟩, .bool false, .int .i64 0, .string ⟨#[]⟩] := by rw [hW29, hg29]; exact Blk.new _ _ _
      have B29 : Below V.heap.size V W29 := by rw [hW29]; exact B0.alloc B0.size _
      have L29 : V.heap.size ≤ g29 := by rw [hg29]; exact B0.size
      refine do_lone (v := .pointer (some ⟨g29, 0, none⟩)) (w' := W29) 4 rfl (by kernel_rfl) (by rw [hW29, hg29]; exact ex_alloc 23 #[.bool false, .int .i64 0, .string ⟨#[]⟩, .bool false, .int .i64 0, .string ⟨#[]⟩] (by kernel_rfl) ad_zero) B29 ?_
      clear hW29 hg29 B0
      refine walk_two 1 5 (by kernel_rfl) ?_ ?_
      · refine do_call 1 rfl (by kernel_rfl) (by kernel_rfl) (HCX.out _) (fun w' h => bel_in B29 h) ?_
        intro W30 hW30
        have B30 := bel_in B29 hW30
        have N30_4 := N29.below hW30 N29.lt
        clear hW30 B29 N29
        refine walk_two 3 5 (by kernel_rfl) ?_ ?_
        · refine do_call 3 rfl (by kernel_rfl) (by kernel_rfl) (HCY.out _) (fun w' h => bel_in B30 h) ?_
          intro W31 hW31
          have B31 := bel_in B30 hW31
          have N31_4 := N30_4.below hW31 N30_4.lt
          clear hW31 B30 N30_4
          obtain ⟨W32, hW32⟩ : ∃ w', w' = W31.alloc (.cells #[.bool false, .int .i64 0, .string ⟨#[]⟩, .bool false, .int .i64 0, .string ⟨#[]⟩] 23) := ⟨_, rfl⟩
          obtain ⟨g32, hg32⟩ : ∃ g, g = W31.heap.size := ⟨_, rfl⟩
          have N32 : Blk W32 g32 23 #[.bool false, .int .i64 0, .string ⟨#[]⟩, .bool false, .int .i64 0, .string ⟨#[]⟩] := by rw [hW32, hg32]; exact Blk.new _ _ _
          have B32 : Below V.heap.size V W32 := by rw [hW32]; exact B31.alloc B31.size _
          have L32 : V.heap.size ≤ g32 := by rw [hg32]; exact B31.size
          have N32_4 : Blk W32 g29 23 #[.bool false, .int .i64 0, .string ⟨#[]⟩, .bool false, .int .i64 0, .string ⟨#[]⟩] := by rw [hW32]; exact N31_4.alloc _
          have E32_4 : g29 ≠ g32 := by rw [hg32]; exact Nat.ne_of_lt N31_4.lt
          refine walk_one 5 (by kernel_rfl) (do_lone (v := .pointer (some ⟨g32, 0, none⟩)) (w' := W32) 5 rfl (by kernel_rfl) (by rw [hW32, hg32]; exact ex_alloc 23 #[.bool false, .int .i64 0, .string ⟨#[]⟩, .bool false, .int .i64 0, .string ⟨#[]⟩] (by kernel_rfl) ad_zero) B32 ?_)
          clear hW32 hg32 B31 N31_4
          obtain ⟨W33, hW33⟩ : ∃ w', w' = W32.setRow g29 (adv x) := ⟨_, rfl⟩
          have N33_4 : Blk W33 g29 23 (adv x) := by rw [hW33]; exact setRow_heap _ _ _ _ _ _ N32_4
          have B33 : Below V.heap.size V W33 := by rw [hW33]; exact below_setRow B32 L29 _
          have N33_5 : Blk W33 g32 23 #[.bool false, .int .i64 0, .string ⟨#[]⟩, .bool false, .int .i64 0, .string ⟨#[]⟩] := by rw [hW33]; exact N32.same (setRow_other _ _ _ _ (Ne.symm E32_4))
          refine walk_one 6 (by kernel_rfl) (do_skip (w' := W33) 6 rfl (by kernel_rfl) (by rw [hW33]; exact ex_store_row 23 (.tmp 7) (.tmp 23) (by kernel_rfl) g29 (adv x) (by kernel_rfl) (by kernel_rfl) 23 #[.bool false, .int .i64 0, .string ⟨#[]⟩, .bool false, .int .i64 0, .string ⟨#[]⟩] N32_4 ad_size rfl (ad_one _)) B33 ?_)
          clear hW33 B32 N32_4 N32
          obtain ⟨W34, hW34⟩ : ∃ w', w' = W33.setRow g32 (adv y) := ⟨_, rfl⟩
          have N34_5 : Blk W34 g32 23 (adv y) := by rw [hW34]; exact setRow_heap _ _ _ _ _ _ N33_5
          have B34 : Below V.heap.size V W34 := by rw [hW34]; exact below_setRow B33 L32 _
          have N34_4 : Blk W34 g29 23 (adv x) := by rw [hW34]; exact N33_4.same (setRow_other _ _ _ _ E32_4)
          refine walk_one 7 (by kernel_rfl) (do_skip (w' := W34) 7 rfl (by kernel_rfl) (by rw [hW34]; exact ex_store_row 23 (.tmp 8) (.tmp 25) (by kernel_rfl) g32 (adv y) (by kernel_rfl) (by kernel_rfl) 23 #[.bool false, .int .i64 0, .string ⟨#[]⟩, .bool false, .int .i64 0, .string ⟨#[]⟩] N33_5 ad_size rfl (ad_one _)) B34 ?_)
          clear hW34 B33 N33_4 N33_5
          refine walk_end_at ⟨#[.agg (drv d), .agg (drv f), .string ids, .pointer (some ⟨b0, 0, none⟩), .pointer (some ⟨b1, 0, none⟩), undef, .bool false, .pointer (some ⟨g29, 0, none⟩), .pointer (some ⟨g32, 0, none⟩), undef, undef, undef, undef, undef, undef, undef, undef, undef, undef, undef, .bool true, .bool false, .agg (drv d), .agg (adv x), .agg (drv f), .agg (adv y), undef, undef, undef, undef, undef, undef, undef, undef, undef, undef, undef, undef, undef, undef, undef, undef, undef, undef, undef, undef, undef, undef, undef, undef, undef, undef, undef, undef, undef, undef, undef, undef, undef, undef, undef, undef, undef, undef, undef, undef, undef, undef, undef, undef, undef, undef, undef, undef, undef, undef, undef, undef, undef, undef, undef, undef, undef, undef, undef, undef, undef, undef, undef, undef, undef, undef, undef, undef, undef, undef, undef, undef, undef, undef, undef, undef, undef, undef, undef, undef, undef, undef, undef, undef, undef, undef, undef, undef, undef, undef, undef, undef, undef, undef, undef, undef, undef, undef, undef, undef, undef], []⟩ (by kernel_rfl) (by kernel_rfl) ?_
          have HL := Lib.hid (show Blk W34 g29 23 (adv x) ∧ Blk W34 g32 23 (adv y) ∧ Below V.heap.size V W34 from ⟨N34_4, N34_5, B34⟩)
          clear N34_4 N34_5
          go_wp2_with fail
          go_meet
          exact ⟨_, _, rfl, rfl, HL.out⟩
        · obtain ⟨W35, hW35⟩ : ∃ w', w' = W30.alloc (.cells #[.bool false, .int .i64 0, .string ⟨#[]⟩, .bool false, .int .i64 0, .string ⟨#[]⟩] 23) := ⟨_, rfl⟩
          obtain ⟨g35, hg35⟩ : ∃ g, g = W30.heap.size := ⟨_, rfl⟩
          have N35 : Blk W35 g35 23 #[.bool false, .int .i64 0, .string ⟨#[]⟩, .bool false, .int .i64 0, .string ⟨#[]⟩] := by rw [hW35, hg35]; exact Blk.new _ _ _
          have B35 : Below V.heap.size V W35 := by rw [hW35]; exact B30.alloc B30.size _
          have L35 : V.heap.size ≤ g35 := by rw [hg35]; exact B30.size
          have N35_4 : Blk W35 g29 23 #[.bool false, .int .i64 0, .string ⟨#[]⟩, .bool false, .int .i64 0, .string ⟨#[]⟩] := by rw [hW35]; exact N30_4.alloc _
          have E35_4 : g29 ≠ g35 := by rw [hg35]; exact Nat.ne_of_lt N30_4.lt
          refine do_lone (v := .pointer (some ⟨g35, 0, none⟩)) (w' := W35) 5 rfl (by kernel_rfl) (by rw [hW35, hg35]; exact ex_alloc 23 #[.bool false, .int .i64 0, .string ⟨#[]⟩, .bool false, .int .i64 0, .string ⟨#[]⟩] (by kernel_rfl) ad_zero) B35 ?_
          clear hW35 hg35 B30 N30_4
          refine walk_one 3 (by kernel_rfl) (do_call 3 rfl (by kernel_rfl) (by kernel_rfl) (HCY.out _) (fun w' h => bel_in B35 h) ?_)
          intro W36 hW36
          have B36 := bel_in B35 hW36
          have N36_4 := N35_4.below hW36 N35_4.lt
          have N36_5 := N35.below hW36 N35.lt
          clear hW36 B35 N35_4 N35
          obtain ⟨W37, hW37⟩ : ∃ w', w' = W36.setRow g29 (adv x) := ⟨_, rfl⟩
          have N37_4 : Blk W37 g29 23 (adv x) := by rw [hW37]; exact setRow_heap _ _ _ _ _ _ N36_4
          have B37 : Below V.heap.size V W37 := by rw [hW37]; exact below_setRow B36 L29 _
          have N37_5 : Blk W37 g35 23 #[.bool false, .int .i64 0, .string ⟨#[]⟩, .bool false, .int .i64 0, .string ⟨#[]⟩] := by rw [hW37]; exact N36_5.same (setRow_other _ _ _ _ (Ne.symm E35_4))
          refine walk_one 6 (by kernel_rfl) (do_skip (w' := W37) 6 rfl (by kernel_rfl) (by rw [hW37]; exact ex_store_row 23 (.tmp 7) (.tmp 23) (by kernel_rfl) g29 (adv x) (by kernel_rfl) (by kernel_rfl) 23 #[.bool false, .int .i64 0, .string ⟨#[]⟩, .bool false, .int .i64 0, .string ⟨#[]⟩] N36_4 ad_size rfl (ad_one _)) B37 ?_)
          clear hW37 B36 N36_4 N36_5
          obtain ⟨W38, hW38⟩ : ∃ w', w' = W37.setRow g35 (adv y) := ⟨_, rfl⟩
          have N38_5 : Blk W38 g35 23 (adv y) := by rw [hW38]; exact setRow_heap _ _ _ _ _ _ N37_5
          have B38 : Below V.heap.size V W38 := by rw [hW38]; exact below_setRow B37 L35 _
          have N38_4 : Blk W38 g29 23 (adv x) := by rw [hW38]; exact N37_4.same (setRow_other _ _ _ _ E35_4)
          refine walk_one 7 (by kernel_rfl) (do_skip (w' := W38) 7 rfl (by kernel_rfl) (by rw [hW38]; exact ex_store_row 23 (.tmp 8) (.tmp 25) (by kernel_rfl) g35 (adv y) (by kernel_rfl) (by kernel_rfl) 23 #[.bool false, .int .i64 0, .string ⟨#[]⟩, .bool false, .int .i64 0, .string ⟨#[]⟩] N37_5 ad_size rfl (ad_one _)) B38 ?_)
          clear hW38 B37 N37_4 N37_5
          refine walk_end_at ⟨#[.agg (drv d), .agg (drv f), .string ids, .pointer (some ⟨b0, 0, none⟩), .pointer (some ⟨b1, 0, none⟩), undef, .bool false, .pointer (some ⟨g29, 0, none⟩), .pointer (some ⟨g35, 0, none⟩), undef, undef, undef, undef, undef, undef, undef, undef, undef, undef, undef, .bool true, .bool false, .agg (drv d), .agg (adv x), .agg (drv f), .agg (adv y), undef, undef, undef, undef, undef, undef, undef, undef, undef, undef, undef, undef, undef, undef, undef, undef, undef, undef, undef, undef, undef, undef, undef, undef, undef, undef, undef, undef, undef, undef, undef, undef, undef, undef, undef, undef, undef, undef, undef, undef, undef, undef, undef, undef, undef, undef, undef, undef, undef, undef, undef, undef, undef, undef, undef, undef, undef, undef, undef, undef, undef, undef, undef, undef, undef, undef, undef, undef, undef, undef, undef, undef, undef, undef, undef, undef, undef, undef, undef, undef, undef, undef, undef, undef, undef, undef, undef, undef, undef, undef, undef, undef, undef, undef, undef, undef, undef, undef, undef, undef, undef], []⟩ (by kernel_rfl) (by kernel_rfl) ?_
          have HL := Lib.hid (show Blk W38 g29 23 (adv x) ∧ Blk W38 g35 23 (adv y) ∧ Below V.heap.size V W38 from ⟨N38_4, N38_5, B38⟩)
          clear N38_4 N38_5
          go_wp2_with fail
          go_meet
          exact ⟨_, _, rfl, rfl, HL.out⟩
      · obtain ⟨W39, hW39⟩ : ∃ w', w' = W29.alloc (.cells #[.bool false, .int .i64 0, .string ⟨#[]⟩, .bool false, .int .i64 0, .string ⟨#[]⟩] 23) := ⟨_, rfl⟩
        obtain ⟨g39, hg39⟩ : ∃ g, g = W29.heap.size := ⟨_, rfl⟩
        have N39 : Blk W39 g39 23 #[.bool false, .int .i64 0, .string ⟨#[]⟩, .bool false, .int .i64 0, .string ⟨#[]⟩] := by rw [hW39, hg39]; exact Blk.new _ _ _
        have B39 : Below V.heap.size V W39 := by rw [hW39]; exact B29.alloc B29.size _
        have L39 : V.heap.size ≤ g39 := by rw [hg39]; exact B29.size
        have N39_4 : Blk W39 g29 23 #[.bool false, .int .i64 0, .string ⟨#[]⟩, .bool false, .int .i64 0, .string ⟨#[]⟩] := by rw [hW39]; exact N29.alloc _
        have E39_4 : g29 ≠ g39 := by rw [hg39]; exact Nat.ne_of_lt N29.lt
        refine do_lone (v := .pointer (some ⟨g39, 0, none⟩)) (w' := W39) 5 rfl (by kernel_rfl) (by rw [hW39, hg39]; exact ex_alloc 23 #[.bool false, .int .i64 0, .string ⟨#[]⟩, .bool false, .int .i64 0, .string ⟨#[]⟩] (by kernel_rfl) ad_zero) B39 ?_
        clear hW39 hg39 B29 N29
        refine walk_one 1 (by kernel_rfl) (do_call 1 rfl (by kernel_rfl) (by kernel_rfl) (HCX.out _) (fun w' h => bel_in B39 h) ?_)
        intro W40 hW40
        have B40 := bel_in B39 hW40
        have N40_4 := N39_4.below hW40 N39_4.lt
        have N40_5 := N39.below hW40 N39.lt
        clear hW40 B39 N39_4 N39
        refine walk_one 3 (by kernel_rfl) (do_call 3 rfl (by kernel_rfl) (by kernel_rfl) (HCY.out _) (fun w' h => bel_in B40 h) ?_)
        intro W41 hW41
        have B41 := bel_in B40 hW41
        have N41_4 := N40_4.below hW41 N40_4.lt
        have N41_5 := N40_5.below hW41 N40_5.lt
        clear hW41 B40 N40_4 N40_5
        obtain ⟨W42, hW42⟩ : ∃ w', w' = W41.setRow g29 (adv x) := ⟨_, rfl⟩
        have N42_4 : Blk W42 g29 23 (adv x) := by rw [hW42]; exact setRow_heap _ _ _ _ _ _ N41_4
        have B42 : Below V.heap.size V W42 := by rw [hW42]; exact below_setRow B41 L29 _
        have N42_5 : Blk W42 g39 23 #[.bool false, .int .i64 0, .string ⟨#[]⟩, .bool false, .int .i64 0, .string ⟨#[]⟩] := by rw [hW42]; exact N41_5.same (setRow_other _ _ _ _ (Ne.symm E39_4))
        refine walk_one 6 (by kernel_rfl) (do_skip (w' := W42) 6 rfl (by kernel_rfl) (by rw [hW42]; exact ex_store_row 23 (.tmp 7) (.tmp 23) (by kernel_rfl) g29 (adv x) (by kernel_rfl) (by kernel_rfl) 23 #[.bool false, .int .i64 0, .string ⟨#[]⟩, .bool false, .int .i64 0, .string ⟨#[]⟩] N41_4 ad_size rfl (ad_one _)) B42 ?_)
        clear hW42 B41 N41_4 N41_5
        obtain ⟨W43, hW43⟩ : ∃ w', w' = W42.setRow g39 (adv y) := ⟨_, rfl⟩
        have N43_5 : Blk W43 g39 23 (adv y) := by rw [hW43]; exact setRow_heap _ _ _ _ _ _ N42_5
        have B43 : Below V.heap.size V W43 := by rw [hW43]; exact below_setRow B42 L39 _
        have N43_4 : Blk W43 g29 23 (adv x) := by rw [hW43]; exact N42_4.same (setRow_other _ _ _ _ E39_4)
        refine walk_one 7 (by kernel_rfl) (do_skip (w' := W43) 7 rfl (by kernel_rfl) (by rw [hW43]; exact ex_store_row 23 (.tmp 8) (.tmp 25) (by kernel_rfl) g39 (adv y) (by kernel_rfl) (by kernel_rfl) 23 #[.bool false, .int .i64 0, .string ⟨#[]⟩, .bool false, .int .i64 0, .string ⟨#[]⟩] N42_5 ad_size rfl (ad_one _)) B43 ?_)
        clear hW43 B42 N42_4 N42_5
        refine walk_end_at ⟨#[.agg (drv d), .agg (drv f), .string ids, .pointer (some ⟨b0, 0, none⟩), .pointer (some ⟨b1, 0, none⟩), undef, .bool false, .pointer (some ⟨g29, 0, none⟩), .pointer (some ⟨g39, 0, none⟩), undef, undef, undef, undef, undef, undef, undef, undef, undef, undef, undef, .bool true, .bool false, .agg (drv d), .agg (adv x), .agg (drv f), .agg (adv y), undef, undef, undef, undef, undef, undef, undef, undef, undef, undef, undef, undef, undef, undef, undef, undef, undef, undef, undef, undef, undef, undef, undef, undef, undef, undef, undef, undef, undef, undef, undef, undef, undef, undef, undef, undef, undef, undef, undef, undef, undef, undef, undef, undef, undef, undef, undef, undef, undef, undef, undef, undef, undef, undef, undef, undef, undef, undef, undef, undef, undef, undef, undef, undef, undef, undef, undef, undef, undef, undef, undef, undef, undef, undef, undef, undef, undef, undef, undef, undef, undef, undef, undef, undef, undef, undef, undef, undef, undef, undef, undef, undef, undef, undef, undef, undef, undef, undef, undef, undef, undef], []⟩ (by kernel_rfl) (by kernel_rfl) ?_
        have HL := Lib.hid (show Blk W43 g29 23 (adv x) ∧ Blk W43 g39 23 (adv y) ∧ Below V.heap.size V W43 from ⟨N43_4, N43_5, B43⟩)
        clear N43_4 N43_5
        go_wp2_with fail
        go_meet
        exact ⟨_, _, rfl, rfl, HL.out⟩
    · obtain ⟨W44, hW44⟩ : ∃ w', w' = W0.alloc (.cells #[.bool false, .int .i64 0, .string ⟨#[]⟩, .bool false, .int .i64 0, .string ⟨#[]⟩] 23) := ⟨_, rfl⟩
      obtain ⟨g44, hg44⟩ : ∃ g, g = W0.heap.size := ⟨_, rfl⟩
      have N44 : Blk W44 g44 23 #[.bool false, .int .i64 0, .string ⟨#[]⟩, .bool false, .int .i64 0, .string ⟨#[]⟩] := by rw [hW44, hg44]; exact Blk.new _ _ _
      have B44 : Below V.heap.size V W44 := by rw [hW44]; exact B0.alloc B0.size _
      have L44 : V.heap.size ≤ g44 := by rw [hg44]; exact B0.size
      refine do_lone (v := .pointer (some ⟨g44, 0, none⟩)) (w' := W44) 5 rfl (by kernel_rfl) (by rw [hW44, hg44]; exact ex_alloc 23 #[.bool false, .int .i64 0, .string ⟨#[]⟩, .bool false, .int .i64 0, .string ⟨#[]⟩] (by kernel_rfl) ad_zero) B44 ?_
      clear hW44 hg44 B0
      refine walk_two 1 4 (by kernel_rfl) ?_ ?_
      · refine do_call 1 rfl (by kernel_rfl) (by kernel_rfl) (HCX.out _) (fun w' h => bel_in B44 h) ?_
        intro W45 hW45
        have B45 := bel_in B44 hW45
        have N45_5 := N44.below hW45 N44.lt
        clear hW45 B44 N44
        refine walk_two 3 4 (by kernel_rfl) ?_ ?_
        · refine do_call 3 rfl (by kernel_rfl) (by kernel_rfl) (HCY.out _) (fun w' h => bel_in B45 h) ?_
          intro W46 hW46
          have B46 := bel_in B45 hW46
          have N46_5 := N45_5.below hW46 N45_5.lt
          clear hW46 B45 N45_5
          obtain ⟨W47, hW47⟩ : ∃ w', w' = W46.alloc (.cells #[.bool false, .int .i64 0, .string ⟨#[]⟩, .bool false, .int .i64 0, .string ⟨#[]⟩] 23) := ⟨_, rfl⟩
          obtain ⟨g47, hg47⟩ : ∃ g, g = W46.heap.size := ⟨_, rfl⟩
          have N47 : Blk W47 g47 23 #[.bool false, .int .i64 0, .string ⟨#[]⟩, .bool false, .int .i64 0, .string ⟨#[]⟩] := by rw [hW47, hg47]; exact Blk.new _ _ _
          have B47 : Below V.heap.size V W47 := by rw [hW47]; exact B46.alloc B46.size _
          have L47 : V.heap.size ≤ g47 := by rw [hg47]; exact B46.size
          have N47_5 : Blk W47 g44 23 #[.bool false, .int .i64 0, .string ⟨#[]⟩, .bool false, .int .i64 0, .string ⟨#[]⟩] := by rw [hW47]; exact N46_5.alloc _
          have E47_5 : g44 ≠ g47 := by rw [hg47]; exact Nat.ne_of_lt N46_5.lt
          refine walk_one 4 (by kernel_rfl) (do_lone (v := .pointer (some ⟨g47, 0, none⟩)) (w' := W47) 4 rfl (by kernel_rfl) (by rw [hW47, hg47]; exact ex_alloc 23 #[.bool false, .int .i64 0, .string ⟨#[]⟩, .bool false, .int .i64 0, .string ⟨#[]⟩] (by kernel_rfl) ad_zero) B47 ?_)
          clear hW47 hg47 B46 N46_5
          obtain ⟨W48, hW48⟩ : ∃ w', w' = W47.setRow g47 (adv x) := ⟨_, rfl⟩
          have N48_4 : Blk W48 g47 23 (adv x) := by rw [hW48]; exact setRow_heap _ _ _ _ _ _ N47
          have B48 : Below V.heap.size V W48 := by rw [hW48]; exact below_setRow B47 L47 _
          have N48_5 : Blk W48 g44 23 #[.bool false, .int .i64 0, .string ⟨#[]⟩, .bool false, .int .i64 0, .string ⟨#[]⟩] := by rw [hW48]; exact N47_5.same (setRow_other _ _ _ _ E47_5)
          refine walk_one 6 (by kernel_rfl) (do_skip (w' := W48) 6 rfl (by kernel_rfl) (by rw [hW48]; exact ex_store_row 23 (.tmp 7) (.tmp 23) (by kernel_rfl) g47 (adv x) (by kernel_rfl) (by kernel_rfl) 23 #[.bool false, .int .i64 0, .string ⟨#[]⟩, .bool false, .int .i64 0, .string ⟨#[]⟩] N47 ad_size rfl (ad_one _)) B48 ?_)
          clear hW48 B47 N47_5 N47
          obtain ⟨W49, hW49⟩ : ∃ w', w' = W48.setRow g44 (adv y) := ⟨_, rfl⟩
          have N49_5 : Blk W49 g44 23 (adv y) := by rw [hW49]; exact setRow_heap _ _ _ _ _ _ N48_5
          have B49 : Below V.heap.size V W49 := by rw [hW49]; exact below_setRow B48 L44 _
          have N49_4 : Blk W49 g47 23 (adv x) := by rw [hW49]; exact N48_4.same (setRow_other _ _ _ _ (Ne.symm E47_5))
          refine walk_one 7 (by kernel_rfl) (do_skip (w' := W49) 7 rfl (by kernel_rfl) (by rw [hW49]; exact ex_store_row 23 (.tmp 8) (.tmp 25) (by kernel_rfl) g44 (adv y) (by kernel_rfl) (by kernel_rfl) 23 #[.bool false, .int .i64 0, .string ⟨#[]⟩, .bool false, .int .i64 0, .string ⟨#[]⟩] N48_5 ad_size rfl (ad_one _)) B49 ?_)
          clear hW49 B48 N48_4 N48_5
          refine walk_end_at ⟨#[.agg (drv d), .agg (drv f), .string ids, .pointer (some ⟨b0, 0, none⟩), .pointer (some ⟨b1, 0, none⟩), undef, .bool false, .pointer (some ⟨g47, 0, none⟩), .pointer (some ⟨g44, 0, none⟩), undef, undef, undef, undef, undef, undef, undef, undef, undef, undef, undef, .bool true, .bool false, .agg (drv d), .agg (adv x), .agg (drv f), .agg (adv y), undef, undef, undef, undef, undef, undef, undef, undef, undef, undef, undef, undef, undef, undef, undef, undef, undef, undef, undef, undef, undef, undef, undef, undef, undef, undef, undef, undef, undef, undef, undef, undef, undef, undef, undef, undef, undef, undef, undef, undef, undef, undef, undef, undef, undef, undef, undef, undef, undef, undef, undef, undef, undef, undef, undef, undef, undef, undef, undef, undef, undef, undef, undef, undef, undef, undef, undef, undef, undef, undef, undef, undef, undef, undef, undef, undef, undef, undef, undef, undef, undef, undef, undef, undef, undef, undef, undef, undef, undef, undef, undef, undef, undef, undef, undef, undef, undef, undef, undef, undef, undef], []⟩ (by kernel_rfl) (by kernel_rfl) ?_
          have HL := Lib.hid (show Blk W49 g47 23 (adv x) ∧ Blk W49 g44 23 (adv y) ∧ Below V.heap.size V W49 from ⟨N49_4, N49_5, B49⟩)
          clear N49_4 N49_5
          go_wp2_with fail
          go_meet
          exact ⟨_, _, rfl, rfl, HL.out⟩
        · obtain ⟨W50, hW50⟩ : ∃ w', w' = W45.alloc (.cells #[.bool false, .int .i64 0, .string ⟨#[]⟩, .bool false, .int .i64 0, .string ⟨#[]⟩] 23) := ⟨_, rfl⟩
          obtain ⟨g50, hg50⟩ : ∃ g, g = W45.heap.size := ⟨_, rfl⟩
          have N50 : Blk W50 g50 23 #[.bool false, .int .i64 0, .string ⟨#[]⟩, .bool false, .int .i64 0, .string ⟨#[]⟩] := by rw [hW50, hg50]; exact Blk.new _ _ _
          have B50 : Below V.heap.size V W50 := by rw [hW50]; exact B45.alloc B45.size _
          have L50 : V.heap.size ≤ g50 := by rw [hg50]; exact B45.size
          have N50_5 : Blk W50 g44 23 #[.bool false, .int .i64 0, .string ⟨#[]⟩, .bool false, .int .i64 0, .string ⟨#[]⟩] := by rw [hW50]; exact N45_5.alloc _
          have E50_5 : g44 ≠ g50 := by rw [hg50]; exact Nat.ne_of_lt N45_5.lt
          refine do_lone (v := .pointer (some ⟨g50, 0, none⟩)) (w' := W50) 4 rfl (by kernel_rfl) (by rw [hW50, hg50]; exact ex_alloc 23 #[.bool false, .int .i64 0, .string ⟨#[]⟩, .bool false, .int .i64 0, .string ⟨#[]⟩] (by kernel_rfl) ad_zero) B50 ?_
          clear hW50 hg50 B45 N45_5
          refine walk_one 3 (by kernel_rfl) (do_call 3 rfl (by kernel_rfl) (by kernel_rfl) (HCY.out _) (fun w' h => bel_in B50 h) ?_)
          intro W51 hW51
          have B51 := bel_in B50 hW51
          have N51_5 := N50_5.below hW51 N50_5.lt
          have N51_4 := N50.below hW51 N50.lt
          clear hW51 B50 N50_5 N50
          obtain ⟨W52, hW52⟩ : ∃ w', w' = W51.setRow g50 (adv x) := ⟨_, rfl⟩
          have N52_4 : Blk W52 g50 23 (adv x) := by rw [hW52]; exact setRow_heap _ _ _ _ _ _ N51_4
          have B52 : Below V.heap.size V W52 := by rw [hW52]; exact below_setRow B51 L50 _
          have N52_5 : Blk W52 g44 23 #[.bool false, .int .i64 0, .string ⟨#[]⟩, .bool false, .int .i64 0, .string ⟨#[]⟩] := by rw [hW52]; exact N51_5.same (setRow_other _ _ _ _ E50_5)
          refine walk_one 6 (by kernel_rfl) (do_skip (w' := W52) 6 rfl (by kernel_rfl) (by rw [hW52]; exact ex_store_row 23 (.tmp 7) (.tmp 23) (by kernel_rfl) g50 (adv x) (by kernel_rfl) (by kernel_rfl) 23 #[.bool false, .int .i64 0, .string ⟨#[]⟩, .bool false, .int .i64 0, .string ⟨#[]⟩] N51_4 ad_size rfl (ad_one _)) B52 ?_)
          clear hW52 B51 N51_5 N51_4
          obtain ⟨W53, hW53⟩ : ∃ w', w' = W52.setRow g44 (adv y) := ⟨_, rfl⟩
          have N53_5 : Blk W53 g44 23 (adv y) := by rw [hW53]; exact setRow_heap _ _ _ _ _ _ N52_5
          have B53 : Below V.heap.size V W53 := by rw [hW53]; exact below_setRow B52 L44 _
          have N53_4 : Blk W53 g50 23 (adv x) := by rw [hW53]; exact N52_4.same (setRow_other _ _ _ _ (Ne.symm E50_5))
          refine walk_one 7 (by kernel_rfl) (do_skip (w' := W53) 7 rfl (by kernel_rfl) (by rw [hW53]; exact ex_store_row 23 (.tmp 8) (.tmp 25) (by kernel_rfl) g44 (adv y) (by kernel_rfl) (by kernel_rfl) 23 #[.bool false, .int .i64 0, .string ⟨#[]⟩, .bool false, .int .i64 0, .string ⟨#[]⟩] N52_5 ad_size rfl (ad_one _)) B53 ?_)
          clear hW53 B52 N52_4 N52_5
          refine walk_end_at ⟨#[.agg (drv d), .agg (drv f), .string ids, .pointer (some ⟨b0, 0, none⟩), .pointer (some ⟨b1, 0, none⟩), undef, .bool false, .pointer (some ⟨g50, 0, none⟩), .pointer (some ⟨g44, 0, none⟩), undef, undef, undef, undef, undef, undef, undef, undef, undef, undef, undef, .bool true, .bool false, .agg (drv d), .agg (adv x), .agg (drv f), .agg (adv y), undef, undef, undef, undef, undef, undef, undef, undef, undef, undef, undef, undef, undef, undef, undef, undef, undef, undef, undef, undef, undef, undef, undef, undef, undef, undef, undef, undef, undef, undef, undef, undef, undef, undef, undef, undef, undef, undef, undef, undef, undef, undef, undef, undef, undef, undef, undef, undef, undef, undef, undef, undef, undef, undef, undef, undef, undef, undef, undef, undef, undef, undef, undef, undef, undef, undef, undef, undef, undef, undef, undef, undef, undef, undef, undef, undef, undef, undef, undef, undef, undef, undef, undef, undef, undef, undef, undef, undef, undef, undef, undef, undef, undef, undef, undef, undef, undef, undef, undef, undef, undef], []⟩ (by kernel_rfl) (by kernel_rfl) ?_
          have HL := Lib.hid (show Blk W53 g50 23 (adv x) ∧ Blk W53 g44 23 (adv y) ∧ Below V.heap.size V W53 from ⟨N53_4, N53_5, B53⟩)
          clear N53_4 N53_5
          go_wp2_with fail
          go_meet
          exact ⟨_, _, rfl, rfl, HL.out⟩
      · obtain ⟨W54, hW54⟩ : ∃ w', w' = W44.alloc (.cells #[.bool false, .int .i64 0, .string ⟨#[]⟩, .bool false, .int .i64 0, .string ⟨#[]⟩] 23) := ⟨_, rfl⟩
        obtain ⟨g54, hg54⟩ : ∃ g, g = W44.heap.size := ⟨_, rfl⟩
        have N54 : Blk W54 g54 23 #[.bool false, .int .i64 0, .string ⟨#[]⟩, .bool false, .int .i64 0, .string ⟨#[]⟩] := by rw [hW54, hg54]; exact Blk.new _ _ _
        have B54 : Below V.heap.size V W54 := by rw [hW54]; exact B44.alloc B44.size _
        have L54 : V.heap.size ≤ g54 := by rw [hg54]; exact B44.size
        have N54_5 : Blk W54 g44 23 #[.bool false, .int .i64 0, .string ⟨#[]⟩, .bool false, .int .i64 0, .string ⟨#[]⟩] := by rw [hW54]; exact N44.alloc _
        have E54_5 : g44 ≠ g54 := by rw [hg54]; exact Nat.ne_of_lt N44.lt
        refine do_lone (v := .pointer (some ⟨g54, 0, none⟩)) (w' := W54) 4 rfl (by kernel_rfl) (by rw [hW54, hg54]; exact ex_alloc 23 #[.bool false, .int .i64 0, .string ⟨#[]⟩, .bool false, .int .i64 0, .string ⟨#[]⟩] (by kernel_rfl) ad_zero) B54 ?_
        clear hW54 hg54 B44 N44
        refine walk_one 1 (by kernel_rfl) (do_call 1 rfl (by kernel_rfl) (by kernel_rfl) (HCX.out _) (fun w' h => bel_in B54 h) ?_)
        intro W55 hW55
        have B55 := bel_in B54 hW55
        have N55_5 := N54_5.below hW55 N54_5.lt
        have N55_4 := N54.below hW55 N54.lt
        clear hW55 B54 N54_5 N54
        refine walk_one 3 (by kernel_rfl) (do_call 3 rfl (by kernel_rfl) (by kernel_rfl) (HCY.out _) (fun w' h => bel_in B55 h) ?_)
        intro W56 hW56
        have B56 := bel_in B55 hW56
        have N56_5 := N55_5.below hW56 N55_5.lt
        have N56_4 := N55_4.below hW56 N55_4.lt
        clear hW56 B55 N55_5 N55_4
        obtain ⟨W57, hW57⟩ : ∃ w', w' = W56.setRow g54 (adv x) := ⟨_, rfl⟩
        have N57_4 : Blk W57 g54 23 (adv x) := by rw [hW57]; exact setRow_heap _ _ _ _ _ _ N56_4
        have B57 : Below V.heap.size V W57 := by rw [hW57]; exact below_setRow B56 L54 _
        have N57_5 : Blk W57 g44 23 #[.bool false, .int .i64 0, .string ⟨#[]⟩, .bool false, .int .i64 0, .string ⟨#[]⟩] := by rw [hW57]; exact N56_5.same (setRow_other _ _ _ _ E54_5)
        refine walk_one 6 (by kernel_rfl) (do_skip (w' := W57) 6 rfl (by kernel_rfl) (by rw [hW57]; exact ex_store_row 23 (.tmp 7) (.tmp 23) (by kernel_rfl) g54 (adv x) (by kernel_rfl) (by kernel_rfl) 23 #[.bool false, .int .i64 0, .string ⟨#[]⟩, .bool false, .int .i64 0, .string ⟨#[]⟩] N56_4 ad_size rfl (ad_one _)) B57 ?_)
        clear hW57 B56 N56_5 N56_4
        obtain ⟨W58, hW58⟩ : ∃ w', w' = W57.setRow g44 (adv y) := ⟨_, rfl⟩
        have N58_5 : Blk W58 g44 23 (adv y) := by rw [hW58]; exact setRow_heap _ _ _ _ _ _ N57_5
        have B58 : Below V.heap.size V W58 := by rw [hW58]; exact below_setRow B57 L44 _
        have N58_4 : Blk W58 g54 23 (adv x) := by rw [hW58]; exact N57_4.same (setRow_other _ _ _ _ (Ne.symm E54_5))
        refine walk_one 7 (by kernel_rfl) (do_skip (w' := W58) 7 rfl (by kernel_rfl) (by rw [hW58]; exact ex_store_row 23 (.tmp 8) (.tmp 25) (by kernel_rfl) g44 (adv y) (by kernel_rfl) (by kernel_rfl) 23 #[.bool false, .int .i64 0, .string ⟨#[]⟩, .bool false, .int .i64 0, .string ⟨#[]⟩] N57_5 ad_size rfl (ad_one _)) B58 ?_)
        clear hW58 B57 N57_4 N57_5
        refine walk_end_at ⟨#[.agg (drv d), .agg (drv f), .string ids, .pointer (some ⟨b0, 0, none⟩), .pointer (some ⟨b1, 0, none⟩), undef, .bool false, .pointer (some ⟨g54, 0, none⟩), .pointer (some ⟨g44, 0, none⟩), undef, undef, undef, undef, undef, undef, undef, undef, undef, undef, undef, .bool true, .bool false, .agg (drv d), .agg (adv x), .agg (drv f), .agg (adv y), undef, undef, undef, undef, undef, undef, undef, undef, undef, undef, undef, undef, undef, undef, undef, undef, undef, undef, undef, undef, undef, undef, undef, undef, undef, undef, undef, undef, undef, undef, undef, undef, undef, undef, undef, undef, undef, undef, undef, undef, undef, undef, undef, undef, undef, undef, undef, undef, undef, undef, undef, undef, undef, undef, undef, undef, undef, undef, undef, undef, undef, undef, undef, undef, undef, undef, undef, undef, undef, undef, undef, undef, undef, undef, undef, undef, undef, undef, undef, undef, undef, undef, undef, undef, undef, undef, undef, undef, undef, undef, undef, undef, undef, undef, undef, undef, undef, undef, undef, undef, undef], []⟩ (by kernel_rfl) (by kernel_rfl) ?_
        have HL := Lib.hid (show Blk W58 g54 23 (adv x) ∧ Blk W58 g44 23 (adv y) ∧ Below V.heap.size V W58 from ⟨N58_4, N58_5, B58⟩)
        clear N58_4 N58_5
        go_wp2_with fail
        go_meet
        exact ⟨_, _, rfl, rfl, HL.out⟩
  case rest =>
    obtain ⟨p, q, rfl, rfl, hp, hq, hb⟩ := hcut
    have HP0 := Lib.hid hp
    have HQ0 := Lib.hid hq
    have HBC0 := Lib.hid (show Below w.heap.size w wc by have z := HBV.out.trans (hb.mono HBV.out.size); first | exact z | (rw [HE0.out]; exact z))
    clear hp hq hb HBV HX HY
    obtain ⟨S, hS⟩ : ∃ S, S = txt x.body := ⟨_, rfl⟩
    obtain ⟨U, hU⟩ : ∃ U, U = txt y.body := ⟨_, rfl⟩
    have HES := Lib.hid (show encV x = .tuple #[.string S, .int .i64 0] by rw [encV_t x HXM.out, hS])
    have HET := Lib.hid (show encV y = .tuple #[.string U, .int .i64 0] by rw [encV_t y HYM.out, hU])
    have HSZ := Lib.hid (show S.size = 2 + x.ip.size + portOf x.hp + x.mac.size by rw [hS, txt_size, x.body_size]; rfl)
    have HS28 := Lib.hid (show S.size ≤ 28 by rw [hS]; exact body_le x HXM.out)
    have HDS := Lib.hid (show decRV S = .tuple #[.agg (rmv ⟨#[]⟩), .int .i64 7] from decRV_eq _ _ _ (decR_kind S (by rw [hS, txt_size, x.body_size]; unfold Ad.size; omega) (by rw [hS, kind_of_fst]; decide)))
    have HS := Lib.hid hS
    have HU := Lib.hid hU
    clear hS hU
    go_wp2_with (refine wpList_load_row_w (by rfl) 23 _ rfl p rfl 23 (adv x) (0, 0) _ ?_ Try.underlying23 rfl ad_size ?_; exact HP0.out)
    refine (EncodeAdd_any x wc).mono ?_
    rintro e W1 ⟨rfl, b⟩
    rw [HES.out]
    have HP1 := Lib.hid (HP0.out.below b HP0.out.lt)
    have HQ1 := Lib.hid (HQ0.out.below b HQ0.out.lt)
    have HBC1 := Lib.hid (HBC0.out.trans (b.mono HBC0.out.size))
    clear b HP0 HQ0 HBC0
    go_wp2_with (refine wpList_load_row_w (by rfl) 23 _ rfl q rfl 23 (adv y) (0, 0) _ ?_ Try.underlying23 rfl ad_size ?_; exact HQ1.out)
    refine (EncodeAdd_any y W1).mono ?_
    rintro e W2 ⟨rfl, b⟩
    rw [HET.out]
    have HP2 := Lib.hid (HP1.out.below b HP1.out.lt)
    have HQ2 := Lib.hid (HQ1.out.below b HQ1.out.lt)
    have HBC2 := Lib.hid (HBC1.out.trans (b.mono HBC1.out.size))
    clear b HP1 HQ1 HBC1
    cases hh : x.hp
    · have c2 := HP2.out.cell 2
      have c3 := HP2.out.cell 3
      have c5 := HP2.out.cell 5
      simp only [List.getElem?_toArray, List.getElem?_cons_zero, List.getElem?_cons_succ] at c2 c3 c5
      rw [hh] at c3
      have HHH := Lib.hid hh
      have hsz := HSZ.out
      rw [hh] at hsz
      replace hsz : S.size = 2 + x.ip.size + 0 + x.mac.size := hsz
      have hip : x.ip.size ≤ 16 := by have := HXM.out.2.1; omega
      have hmac : x.mac.size ≤ 8 := by have := HXM.out.2.2.2.2; rw [this]; cases x.echo <;> decide
      have e1 : ((S.size : Int) == 2 + (x.ip.size : Int) + (x.mac.size : Int)) = true := by rw [beq_iff_eq]; omega
      have hcat := fun W => run_string_add_sum (P := Try.prog) W ids ⟨#[0]⟩ (by have := HIDS.out; show ids.size + 1 ≤ _; omega)
      rw [← HLL.out] at hcat
      have mJ := HMJ.out
      have lJ := HLJ.out
      have hids := HIDS.out
      have eJ := HJ.out.symm
      have E1 := Lib.hid e1
      clear hh hsz e1
      go_upto_region 10 with fail
      
      clear c2 c3 c5 hip hmac hcat mJ lJ hids eJ
      go_wp2_with fail
      refine (EncodeRemove_any J (by have := HJS.out; omega) W2).mono ?_
      rintro e W3 ⟨rfl, b⟩
      rw [HER.out]
      have HP3 := Lib.hid (HP2.out.below b HP2.out.lt)
      have HQ3 := Lib.hid (HQ2.out.below b HQ2.out.lt)
      have HBC3 := Lib.hid (HBC2.out.trans (b.mono HBC2.out.size))
      clear b HP2 HQ2 HBC2
      go_wp2_with fail
      refine (DecodeAdd_any R (by have := HRS.out; have := HJS.out; omega) W3).mono ?_
      rintro e W4 ⟨rfl, b⟩
      rw [HDR.out]
      have HP4 := Lib.hid (HP3.out.below b HP3.out.lt)
      have HQ4 := Lib.hid (HQ3.out.below b HQ3.out.lt)
      have HBC4 := Lib.hid (HBC3.out.trans (b.mono HBC3.out.size))
      clear b HP3 HQ3 HBC3
      obtain ⟨W5, hW5⟩ : ∃ W, W = W4.alloc (.cells (adv Ad.zero) 23) := ⟨_, rfl⟩
      have b : Below W4.heap.size W4 W5 := by rw [hW5]; exact (Below.refl _ _).alloc (Nat.le_refl _) _
      have HP5 := Lib.hid (HP4.out.below b HP4.out.lt)
      have HQ5 := Lib.hid (HQ4.out.below b HQ4.out.lt)
      have HBC5 := Lib.hid (HBC4.out.trans (b.mono HBC4.out.size))
      clear b HP4 HQ4 HBC4
      have HW5 := Lib.hid (show W5 = W4.alloc (.cells #[.bool Ad.zero.echo, .int .i64 Ad.zero.id, .string Ad.zero.ip, .bool Ad.zero.hp, .int .i64 Ad.zero.port, .string Ad.zero.mac] 23) from hW5)
      clear hW5
      go_upto_region 12 with fail
      rw [← HW5.out]
      go_wp2_with fail
      refine (DecodeRemove_any S (by have := HS28.out; omega) W5).mono ?_
      rintro e W6 ⟨rfl, b⟩
      rw [HDS.out]
      have HP6 := Lib.hid (HP5.out.below b HP5.out.lt)
      have HQ6 := Lib.hid (HQ5.out.below b HQ5.out.lt)
      have HBC6 := Lib.hid (HBC5.out.trans (b.mono HBC5.out.size))
      clear b HP5 HQ5 HBC5
      obtain ⟨W7, hW7⟩ : ∃ W, W = W6.alloc (.cells #[.string ⟨#[]⟩] 29) := ⟨_, rfl⟩
      have b : Below W6.heap.size W6 W7 := by rw [hW7]; exact (Below.refl _ _).alloc (Nat.le_refl _) _
      have HP7 := Lib.hid (HP6.out.below b HP6.out.lt)
      have HQ7 := Lib.hid (HQ6.out.below b HQ6.out.lt)
      have HBC7 := Lib.hid (HBC6.out.trans (b.mono HBC6.out.size))
      clear b HP6 HQ6 HBC6
      have HW7 := Lib.hid hW7
      clear hW7
      go_upto_region 13 with fail
      rw [← HW7.out]
      have e1 := E1.out
      go_wp2_with (refine wpList_load_row_w (by rfl) 23 _ rfl p rfl 23 (adv x) (0, 0) _ ?_ Try.underlying23 rfl ad_size ?_; exact HP7.out)
      clear e1
      refine (laid_t x HXM.out S HS.out.symm W7).mono ?_
      rintro e W8 ⟨rfl, b⟩
      have HP8 := Lib.hid (HP7.out.below b HP7.out.lt)
      have HQ8 := Lib.hid (HQ7.out.below b HQ7.out.lt)
      have HBC8 := Lib.hid (HBC7.out.trans (b.mono HBC7.out.size))
      clear b HP7 HQ7 HBC7
      go_wp2_with (refine wpList_load_row_w (by rfl) 23 _ rfl q rfl 23 (adv y) (0, 0) _ ?_ Try.underlying23 rfl ad_size ?_; exact HQ8.out)
      refine (laid_t y HYM.out U HU.out.symm W8).mono ?_
      rintro e W9 ⟨rfl, b⟩
      have HP9 := Lib.hid (HP8.out.below b HP8.out.lt)
      have HQ9 := Lib.hid (HQ8.out.below b HQ8.out.lt)
      have HBC9 := Lib.hid (HBC8.out.trans (b.mono HBC8.out.size))
      clear b HP8 HQ8 HBC8
      go_wp2_with fail
      refine (taken_t J HJS.out R HRE.out.symm W9).mono ?_
      rintro e W10 ⟨rfl, b⟩
      have HP10 := Lib.hid (HP9.out.below b HP9.out.lt)
      have HQ10 := Lib.hid (HQ9.out.below b HQ9.out.lt)
      have HBC10 := Lib.hid (HBC9.out.trans (b.mono HBC9.out.size))
      clear b HP9 HQ9 HBC9
      obtain ⟨B, hB⟩ : ∃ B, B = aeq x y := ⟨_, rfl⟩
      have es : (S.toList == U.toList) = B := by
        rw [hB]
        by_cases h : x = y
        · subst h
          rw [aeq_self, HS.out, HU.out]; exact beq_self_eq_true _
        · rw [aeq_ne h, beq_eq_false_iff_ne]
          intro q
          exact h (body_inj x y HXM.out HYM.out (by rw [← HS.out, ← HU.out]; exact (str_iff _ _).1 q))
      have HJB := Lib.hid (ad_equal_b x y B hB.symm)
      have er : ((R.size : Int) == (J.size : Int) + 1) = true := by rw [beq_iff_eq]; have := HRS.out; omega
      have jz : J.size ≤ 37 := HJS.out.2
      clear hB
      have hBB : (B == B) = true := by cases B <;> rfl
      go_wp2_with (first
        | (refine wpList_load_row_w (by rfl) 23 _ rfl p rfl 23 (adv x) (0, 0) _ ?_ Try.underlying23 rfl ad_size ?_; exact HP10.out)
        | (refine wpList_load_row_w (by rfl) 23 _ rfl q rfl 23 (adv y) (0, 0) _ ?_ Try.underlying23 rfl ad_size ?_; exact HQ10.out)
        | (refine wpList_agg_eq (by rfl) 23 23 _ _ rfl (adv x) (adv y) rfl rfl (by kernel_rfl) B ?_ ?_; exact HJB.out _))
      go_ret
      exact ⟨rfl, HBC10.out⟩
    · have c2 := HP2.out.cell 2
      have c3 := HP2.out.cell 3
      have c5 := HP2.out.cell 5
      simp only [List.getElem?_toArray, List.getElem?_cons_zero, List.getElem?_cons_succ] at c2 c3 c5
      rw [hh] at c3
      have HHH := Lib.hid hh
      have hsz := HSZ.out
      rw [hh] at hsz
      replace hsz : S.size = 2 + x.ip.size + 2 + x.mac.size := hsz
      have hip : x.ip.size ≤ 16 := by have := HXM.out.2.1; omega
      have hmac : x.mac.size ≤ 8 := by have := HXM.out.2.2.2.2; rw [this]; cases x.echo <;> decide
      have e1 : ((S.size : Int) == 2 + (x.ip.size : Int) + (x.mac.size : Int) + 2) = true := by rw [beq_iff_eq]; omega
      have hcat := fun W => run_string_add_sum (P := Try.prog) W ids ⟨#[0]⟩ (by have := HIDS.out; show ids.size + 1 ≤ _; omega)
      rw [← HLL.out] at hcat
      have mJ := HMJ.out
      have lJ := HLJ.out
      have hids := HIDS.out
      have eJ := HJ.out.symm
      have E1 := Lib.hid e1
      clear hh hsz e1
      go_upto_region 10 with fail
      
      clear c2 c3 c5 hip hmac hcat mJ lJ hids eJ
      go_wp2_with fail
      refine (EncodeRemove_any J (by have := HJS.out; omega) W2).mono ?_
      rintro e W3 ⟨rfl, b⟩
      rw [HER.out]
      have HP3 := Lib.hid (HP2.out.below b HP2.out.lt)
      have HQ3 := Lib.hid (HQ2.out.below b HQ2.out.lt)
      have HBC3 := Lib.hid (HBC2.out.trans (b.mono HBC2.out.size))
      clear b HP2 HQ2 HBC2
      go_wp2_with fail
      refine (DecodeAdd_any R (by have := HRS.out; have := HJS.out; omega) W3).mono ?_
      rintro e W4 ⟨rfl, b⟩
      rw [HDR.out]
      have HP4 := Lib.hid (HP3.out.below b HP3.out.lt)
      have HQ4 := Lib.hid (HQ3.out.below b HQ3.out.lt)
      have HBC4 := Lib.hid (HBC3.out.trans (b.mono HBC3.out.size))
      clear b HP3 HQ3 HBC3
      obtain ⟨W5, hW5⟩ : ∃ W, W = W4.alloc (.cells (adv Ad.zero) 23) := ⟨_, rfl⟩
      have b : Below W4.heap.size W4 W5 := by rw [hW5]; exact (Below.refl _ _).alloc (Nat.le_refl _) _
      have HP5 := Lib.hid (HP4.out.below b HP4.out.lt)
      have HQ5 := Lib.hid (HQ4.out.below b HQ4.out.lt)
      have HBC5 := Lib.hid (HBC4.out.trans (b.mono HBC4.out.size))
      clear b HP4 HQ4 HBC4
      have HW5 := Lib.hid (show W5 = W4.alloc (.cells #[.bool Ad.zero.echo, .int .i64 Ad.zero.id, .string Ad.zero.ip, .bool Ad.zero.hp, .int .i64 Ad.zero.port, .string Ad.zero.mac] 23) from hW5)
      clear hW5
      go_upto_region 12 with fail
      rw [← HW5.out]
      go_wp2_with fail
      refine (DecodeRemove_any S (by have := HS28.out; omega) W5).mono ?_
      rintro e W6 ⟨rfl, b⟩
      rw [HDS.out]
      have HP6 := Lib.hid (HP5.out.below b HP5.out.lt)
      have HQ6 := Lib.hid (HQ5.out.below b HQ5.out.lt)
      have HBC6 := Lib.hid (HBC5.out.trans (b.mono HBC5.out.size))
      clear b HP5 HQ5 HBC5
      obtain ⟨W7, hW7⟩ : ∃ W, W = W6.alloc (.cells #[.string ⟨#[]⟩] 29) := ⟨_, rfl⟩
      have b : Below W6.heap.size W6 W7 := by rw [hW7]; exact (Below.refl _ _).alloc (Nat.le_refl _) _
      have HP7 := Lib.hid (HP6.out.below b HP6.out.lt)
      have HQ7 := Lib.hid (HQ6.out.below b HQ6.out.lt)
      have HBC7 := Lib.hid (HBC6.out.trans (b.mono HBC6.out.size))
      clear b HP6 HQ6 HBC6
      have HW7 := Lib.hid hW7
      clear hW7
      go_upto_region 13 with fail
      rw [← HW7.out]
      have e1 := E1.out
      go_wp2_with (refine wpList_load_row_w (by rfl) 23 _ rfl p rfl 23 (adv x) (0, 0) _ ?_ Try.underlying23 rfl ad_size ?_; exact HP7.out)
      clear e1
      refine (laid_t x HXM.out S HS.out.symm W7).mono ?_
      rintro e W8 ⟨rfl, b⟩
      have HP8 := Lib.hid (HP7.out.below b HP7.out.lt)
      have HQ8 := Lib.hid (HQ7.out.below b HQ7.out.lt)
      have HBC8 := Lib.hid (HBC7.out.trans (b.mono HBC7.out.size))
      clear b HP7 HQ7 HBC7
      go_wp2_with (refine wpList_load_row_w (by rfl) 23 _ rfl q rfl 23 (adv y) (0, 0) _ ?_ Try.underlying23 rfl ad_size ?_; exact HQ8.out)
      refine (laid_t y HYM.out U HU.out.symm W8).mono ?_
      rintro e W9 ⟨rfl, b⟩
      have HP9 := Lib.hid (HP8.out.below b HP8.out.lt)
      have HQ9 := Lib.hid (HQ8.out.below b HQ8.out.lt)
      have HBC9 := Lib.hid (HBC8.out.trans (b.mono HBC8.out.size))
      clear b HP8 HQ8 HBC8
      go_wp2_with fail
      refine (taken_t J HJS.out R HRE.out.symm W9).mono ?_
      rintro e W10 ⟨rfl, b⟩
      have HP10 := Lib.hid (HP9.out.below b HP9.out.lt)
      have HQ10 := Lib.hid (HQ9.out.below b HQ9.out.lt)
      have HBC10 := Lib.hid (HBC9.out.trans (b.mono HBC9.out.size))
      clear b HP9 HQ9 HBC9
      obtain ⟨B, hB⟩ : ∃ B, B = aeq x y := ⟨_, rfl⟩
      have es : (S.toList == U.toList) = B := by
        rw [hB]
        by_cases h : x = y
        · subst h
          rw [aeq_self, HS.out, HU.out]; exact beq_self_eq_true _
        · rw [aeq_ne h, beq_eq_false_iff_ne]
          intro q
          exact h (body_inj x y HXM.out HYM.out (by rw [← HS.out, ← HU.out]; exact (str_iff _ _).1 q))
      have HJB := Lib.hid (ad_equal_b x y B hB.symm)
      have er : ((R.size : Int) == (J.size : Int) + 1) = true := by rw [beq_iff_eq]; have := HRS.out; omega
      have jz : J.size ≤ 37 := HJS.out.2
      clear hB
      have hBB : (B == B) = true := by cases B <;> rfl
      go_wp2_with (first
        | (refine wpList_load_row_w (by rfl) 23 _ rfl p rfl 23 (adv x) (0, 0) _ ?_ Try.underlying23 rfl ad_size ?_; exact HP10.out)
        | (refine wpList_load_row_w (by rfl) 23 _ rfl q rfl 23 (adv y) (0, 0) _ ?_ Try.underlying23 rfl ad_size ?_; exact HQ10.out)
        | (refine wpList_agg_eq (by rfl) 23 23 _ _ rfl (adv x) (adv y) rfl rfl (by kernel_rfl) B ?_ ?_; exact HJB.out _))
      go_ret
      exact ⟨rfl, HBC10.out⟩

theorem own : ownKnob Try.prog.godebug = none := by kernel_rfl
theorem laidOut : laidOutB Try.prog = true := by kernel_rfl

set_option maxRecDepth 100000 in
theorem lifted (os : Os) (started : os.Started) (H : Type) (enc : TypeId × Value → H) :
    ReturnsInHanded {} Try.checked os 5 .any (Rows.addrBackSpec.pre6 enc Try.prog Try.f5 Rows.addrBackRow.domain false) (Rows.addrBackSpec.post enc Try.prog Try.f5 false true false false) := by
  refine returnsInHanded_of_change_sized (C := Try.checked) own started (by kernel_rfl) Try.func5
    (ChangeSpec.witness6 (enc := enc) (C := Try.checked) false ⟨#[], #[.agg #[.bool false, .bool false, .bool false, .int .u8 0, .int .u16 0, .int .u8 0, .int .u8 0, .int .u8 0, .int .u8 0, .int .u8 0, .int .u8 0, .int .u8 0, .int .u8 0, .int .u8 0, .int .u8 0, .int .u8 0, .int .u8 0, .int .u8 0, .int .u8 0, .int .u8 0, .int .u8 0, .int .u8 0, .int .u8 0, .int .u8 0, .int .u8 0, .int .u8 0, .int .u8 0, .int .u8 0, .int .u8 0], .agg #[.bool false, .bool false, .bool false, .int .u8 0, .int .u16 0, .int .u8 0, .int .u8 0, .int .u8 0, .int .u8 0, .int .u8 0, .int .u8 0, .int .u8 0, .int .u8 0, .int .u8 0, .int .u8 0, .int .u8 0, .int .u8 0, .int .u8 0, .int .u8 0, .int .u8 0, .int .u8 0, .int .u8 0, .int .u8 0, .int .u8 0, .int .u8 0, .int .u8 0, .int .u8 0, .int .u8 0, .int .u8 0], .string ByteArray.empty], []⟩ 8 (by kernel_rfl) (by kernel_rfl) (by kernel_rfl) (by kernel_rfl)) ?_
  intro W base args ds gs before hval0 hW hcnd hsz0 _
  have hsz : (DataW.weightsEach Try.prog (Try.f5.params.toList ++ Rows.addrBackSpec.plain.varTypes Try.prog) (ds ++ gs)).all (· ≤ reachBytes) = true := hsz0
  have hval : ∀ (j : Nat) t v, Try.f5.params[j]? = some t → args[j]? = some v → Value.okWide Try.prog W .any base t v := hval0
  have hW' := hW
  obtain ⟨p, q, hA0, hV, rfl, hfz, hnd⟩ := hW
  have hA : DataW.TrodAll enc Try.prog W 0 (fun _ => true) true Try.f5.params.toList args.toList ds p := hA0
  rw [Try.params5] at hA hval hsz
  obtain ⟨v0, vs0, d0, ds0, p0, q0, hargs, rfl, rfl, h0, r0⟩ := trodAll_cons hA
  obtain ⟨v1, vs1, d1, ds1, p1, q1, rfl, rfl, rfl, h1, r1⟩ := trodAll_cons r0
  obtain ⟨v2, vs2, d2, ds2, p2, q2, rfl, rfl, rfl, h2, r2⟩ := trodAll_cons r1
  obtain ⟨rfl, rfl, rfl⟩ := trodAll_nil r2
  obtain rfl : args = #[v0, v1, v2] := by cases args; simp_all
  obtain ⟨rfl, rfl⟩ := trodVars_none hV
  have k0 := h0
  have lt0 : ∀ x ∈ p0, x.block < W.heap.size := by obtain ⟨m, hm⟩ := k0; exact DataW.trod_lt m _ _ _ hm
  obtain ⟨d, rfl, hd⟩ := open_draft (hval 0 35 v0 rfl rfl) h0
  have k1 := h1
  have lt1 : ∀ x ∈ p1, x.block < W.heap.size := by obtain ⟨m, hm⟩ := k1; exact DataW.trod_lt m _ _ _ hm
  obtain ⟨f, rfl, hf⟩ := open_draft (hval 1 35 v1 rfl rfl) h1
  obtain ⟨a2, rfl, rfl, rfl, w2⟩ := open_string Try.underlying9 (hval 2 9 v2 rfl rfl) h2
  have z2 : a2.size ≤ 140737488351232 := by have := sized_string hsz (j := 2) (t := 9) rfl rfl; simpa [reachBytes] using this
  clear hA0 hval0
  simp only [List.append_nil] at hW'
  refine (walk d hd f hf a2 z2 W).mono fun e W' ⟨he, bel⟩ => ?_
  subst he
  exact ⟨_, rfl, _, _, _, [], _, [], hW', trodAll_mk1 (shut_bool Try.underlying4 _), (trodAll_cons_mk (Below.trod laidOut (by kernel_rfl) (of_decide_eq_true (by kernel_rfl)) k0 bel lt0) (trodAll_cons_mk (Below.trod laidOut (by kernel_rfl) (of_decide_eq_true (by kernel_rfl)) k1 bel lt1) (trodAll_cons_mk (shut_string Try.underlying9 w2) trodAll_mk0))), rfl, bel.frame _, fun h => by cases h⟩

theorem over : Rows.addrBackRow.holds Try.pinned (OpenSpec.ofChange Rows.addrBackSpec) :=
  OpenClaim.holds_of_wide 5 Try.f5 rfl rfl rfl rfl rfl rfl rfl ⟨rfl, rfl, rfl, rfl, rfl⟩ rfl rfl rfl rfl rfl (by kernel_rfl) Try.func5 (by kernel_rfl)
    (of_decide_eq_true (by kernel_rfl)) (by unfold Func.isWrapper; first | (rw [if_pos (by decide +kernel)]; kernel_rfl) | (rw [if_neg (by decide +kernel)]; exact ⟨rfl, rfl⟩))
    (fun os started H enc _ => lifted os started H enc)

theorem proved : Rows.AddrBackSaid := over
#print axioms proved
end Go.Proofs.Ytcofdiamlmlhfaa.addrBack
