/-
  The chapter's examples, the keys 0 and the greatest, keys put together alike (statement KeyKnown), without condition but the tables' own initial values, which the card ties to the program's text.
-/
import Derived.Test.YtcbakfnpbhgjoaaDoorKeyOpen
import Derived.Test.YtcbakfnpbhgjoaaDoorKeyWorks
namespace Go.Proofs.YtcbakfnpbhgjoaaDoor.keyKnown
open Go.ChangeShapes Go.WideShapes Go.ChangeAt Go.RowKit
set_option linter.unusedVariables false

theorem moves {P : Program} {f : FuncId} {args : Array Value} {w : World} {v v' : Value} {b : Nat} {s : ByteArray} {k : Nat} {br : Bool} (h : Calls P f args w fun e w' => e = .returned v ∧ Moved w w' b s k br) (hv : v = v') :
    Calls P f args w fun e w' => e = .returned v' ∧ w.grownBy w' (some b) := h.mono fun e w' q => ⟨hv ▸ q.1, q.2.1⟩
theorem full_bytes : (⟨#[255, 255, 255, 255, 255, 255, 255, 255]⟩ : ByteArray) = txt (be 8 18446744073709551615) := by decide
theorem zero_bytes : (List.replicate 8 0 : List UInt8) = be 8 0 := by decide
theorem num_bytes : (⟨#[255, 255, 255, 255, 0, 0, 0, 0]⟩ : ByteArray).data.toList = be 4 4294967295 ++ be 4 0 := by decide

set_option maxHeartbeats 1000000 in
set_option maxRecDepth 100000 in
theorem walk (w : World) (ht : Tbl w) : Calls Tryd.prog 9 #[] w fun e w' => e = .returned (.bool true) ∧ Below w.heap.size w w' := by
  obtain ⟨z32, hz32⟩ : ∃ z32, z32 = byv (List.replicate 32 0) := ⟨_, rfl⟩
  have hdz := digest_zero
  rw [← hz32] at hdz
  have HZK := Lib.hid (show DOk z32 by rw [hz32]; exact dok_zero)
  obtain ⟨D, hD⟩ : ∃ D, D = byv (kdig 0) := ⟨_, rfl⟩
  have HD := Lib.hid hD
  have HDK := Lib.hid (show DOk D by rw [hD]; exact dok _ (kdig_length _))
  obtain ⟨M, hM⟩ : ∃ M, M = byv (macn 0 0 0 0) := ⟨_, rfl⟩
  have HM := Lib.hid hM
  have HMK := Lib.hid (show DOk M by rw [hM]; exact dok _ (macn_length _ _ _ _))
  obtain ⟨N, hN⟩ : ∃ N, N = byv (macn 18446744073709551615 18446744073709551615 4294967295 0) := ⟨_, rfl⟩
  obtain ⟨Z, hZ⟩ : ∃ Z, Z = txt (List.replicate 8 0) := ⟨_, rfl⟩
  have hZd : Z.data.toList = be 8 0 := by rw [hZ, ← zero_bytes]
  have HZ := Lib.hid (show Z = txt (be 8 0) by rw [hZ, zero_bytes])
  have hZs : Z.size = 8 := by rw [hZ]; simp [ByteArray.size]
  obtain ⟨ZZ, hZZ⟩ : ∃ ZZ, ZZ = Z ++ Z := ⟨_, rfl⟩
  have hZZs : ZZ.size = 16 := by rw [hZZ, ByteArray.size_append]; omega
  have HZZ := Lib.hid hZZ
  have HMC := Lib.hid (show M = byv (code ZZ.data.toList Z.data.toList) by rw [hM, hZZ, ByteArray.data_append, Array.toList_append, hZd, macn, mac]; rfl)
  have HMC0 := Lib.hid (show M = byv (code (⟨#[]⟩ : ByteArray).data.toList Z.data.toList) by
    rw [HMC.out, hZZ, ByteArray.data_append, Array.toList_append, hZd, ← code_zeros (⟨#[]⟩ : ByteArray).data.toList (be 8 0) 16 (by decide)]; rfl)
  obtain ⟨FF, hFF⟩ : ∃ FF, FF = (⟨#[255, 255, 255, 255, 255, 255, 255, 255]⟩ : ByteArray) ++ ⟨#[255, 255, 255, 255, 255, 255, 255, 255]⟩ := ⟨_, rfl⟩
  have hFFs : FF.size = 16 := by rw [hFF]; decide
  have HFF := Lib.hid hFF
  have HNC := Lib.hid (show N = byv (code FF.data.toList (⟨#[255, 255, 255, 255, 0, 0, 0, 0]⟩ : ByteArray).data.toList) by
    rw [hN, hFF, ByteArray.data_append, Array.toList_append, full_bytes, num_bytes, macn, mac])
  obtain ⟨L, hL⟩ : ∃ L, L = txt (told 18446744073709551615 0 255 (⟨#[]⟩ : ByteArray).data.toList 0) := ⟨_, rfl⟩
  have HL := Lib.hid hL
  obtain ⟨Q, hQ⟩ : ∃ Q, Q = txt ((macn 18446744073709551615 18446744073709551615 4294967295 0).take 8) := ⟨_, rfl⟩
  have HQ := Lib.hid hQ
  have HTL := Lib.hid (show ∀ W, Calls Tryd.prog 27 #[.agg N, .int .i64 8] W fun e w' => e = .returned (.string Q) ∧ Below W.heap.size W w' from fun W => by
    have h := Left_any (macn 18446744073709551615 18446744073709551615 4294967295 0) (macn_length _ _ _ _) 8 (by decide) (by decide) W
    rw [← hN, show cl 8 = 8 from rfl, ← hQ] at h
    exact h)
  obtain ⟨T, hT⟩ : ∃ T, T = txt ((kdig 0).take 4) := ⟨_, rfl⟩
  have hTs : T.size = 4 := by rw [hT]; simp [ByteArray.size, kdig_length]
  have HTK := Lib.hid (show num T 0 4 = tok 0 by rw [hT, tok])
  have HTT := Lib.hid hT
  obtain ⟨ZB, hZB⟩ : ∃ ZB, ZB = byv (List.replicate 8 0) := ⟨_, rfl⟩
  have hmk : ∀ W, (Instr.makeSlice 35 (.int .i64 8) (.int .i64 8)).run Tryd.prog W = .ok (.slice (some ⟨W.heap.size, 0, none⟩) 8 8) (W.alloc (.cells ZB 5)) := fun W => by rw [hZB]; exact make_any W 8 .i64 (by decide)
  obtain ⟨W0, hW0⟩ : ∃ W0, W0 = w.alloc (.cells ZB 5) := ⟨_, rfl⟩
  have hcv := bytes_txt W0 w.heap.size 8 8 (List.replicate 8 0) (by rw [hW0, hZB]; exact Blk.new w _ _) (by simp)
  rw [← hZ] at hcv
  have b0 : Below w.heap.size w W0 := by rw [hW0]; exact (Below.refl _ w).alloc (Nat.le_refl _) _
  have HB0 := Lib.hid b0
  have HT := Lib.hid ht
  have ew0 := hW0.symm
  clear hz32 ht hD hM hN hZ hZd hZZ hFF hL hQ hT hZB hW0 b0
  go_enter Tryd.func9, Tryd.ntmps9
  go_wp2_with fail
  refine (SumL Z _ D W0 rfl (by rw [HD.out, HZ.out, kdig]) (HT.out.below HB0.out) (by rw [len_data]; omega)).mono ?_
  rintro e W1 ⟨rfl, b1⟩
  have n1 := Blk.new W1 32 z32
  obtain ⟨W2, hW2⟩ : ∃ W2, W2 = (W1.alloc (.cells z32 32)).setRow W1.heap.size D := ⟨_, rfl⟩
  have hb : Blk W2 W1.heap.size 32 D := by rw [hW2]; exact setRow_heap _ _ _ _ _ _ n1
  have b2 : Below W1.heap.size W1 W2 := by rw [hW2]; exact below_setRow ((Below.refl _ W1).alloc (Nat.le_refl _) _) (Nat.le_refl _) _
  have HB2 := Lib.hid (HB0.out.trans ((b1.trans (b2.mono b1.size)).mono HB0.out.size))
  have HN1 := Lib.hid n1
  have HDO := Lib.hid (show z32.size = D.size by rw [HZK.out.size, HDK.out.size])
  have HW2 := Lib.hid hW2
  obtain ⟨g, hg⟩ : ∃ g, g = W1.heap.size := ⟨_, rfl⟩
  rw [← hg] at hb
  have HG := Lib.hid hg
  have hsl : ∀ W, (Instr.sliceAt 32 (.pointer (some ⟨g, 0, none⟩)) none (some (.int .i64 4)) none).run Tryd.prog W = .ok (.slice (some ⟨g, 0, none⟩) 4 32) W := fun W => slice_front W g 4 (by decide)
  have hcv2 := conv_front W2 g 32 (kdig 0) 4 32 (by rw [← HD.out]; exact hb) (by rw [kdig_length]; decide)
  rw [← HTT.out] at hcv2
  clear n1 hW2 hb b1 b2 hg HB0 ew0 hcv hmk
  go_wp2_with (refine wpList_store_row rfl 32 (.tmp 2) (.tmp 11) rfl W1.heap.size D rfl rfl 32 z32 HN1.out HDK.out.info HDO.out HDK.out.one ?_)
  rw [← HW2.out, ← HG.out]
  clear HW2 HG
  go_wp2_with fail
  rw [hcv2]
  go_wp2_with fail
  refine (Read_new T W2).mono ?_
  rintro e W3 ⟨b, rfl, hb, b3, hc⟩
  have HB3 := Lib.hid (HB2.out.trans (b3.mono HB2.out.size))
  have HBB := Lib.hid (Nat.le_trans HB2.out.size hb)
  have HC3 := Lib.hid hc
  clear b3 hb hc HB2 hcv2 hsl HN1
  go_wp2_with fail
  refine (Bytes_any 18446744073709551615 (by decide) ⟨#[255, 255, 255, 255, 255, 255, 255, 255]⟩ full_bytes W3).mono ?_
  rintro e W4 ⟨rfl, b4⟩
  have HB4 := Lib.hid (HB3.out.trans (b4.mono HB3.out.size))
  have HC4 := Lib.hid (HC3.out.below b4 HC3.out.lt)
  obtain ⟨W5, hW5⟩ : ∃ W5, W5 = W4.alloc (.cells #[.int .i64 (-1), .string ⟨#[]⟩, .bool false, .int .i64 9] 38) := ⟨_, rfl⟩
  have n5 : Blk W5 W4.heap.size 38 #[.int .i64 (-1), .string ⟨#[]⟩, .bool false, .int .i64 9] := by rw [hW5]; exact Blk.new _ _ _
  have b5 : Below W4.heap.size W4 W5 := by rw [hW5]; exact (Below.refl _ W4).alloc (Nat.le_refl _) _
  have s5 : W5.heap.size = W4.heap.size + 1 := by rw [hW5]; exact World.size_alloc _ _
  obtain ⟨W6, hW6⟩ : ∃ W6, W6 = W5.alloc (.cells #[.int .i64 255, .string ⟨#[]⟩, .bool true, .int .i64 0] 38) := ⟨_, rfl⟩
  have n6 : Blk W6 W5.heap.size 38 #[.int .i64 255, .string ⟨#[]⟩, .bool true, .int .i64 0] := by rw [hW6]; exact Blk.new _ _ _
  have b6 : Below W5.heap.size W5 W6 := by rw [hW6]; exact (Below.refl _ W5).alloc (Nat.le_refl _) _
  have bb := b5.trans (b6.mono b5.size)
  have HB6 := Lib.hid (HB4.out.trans (bb.mono HB4.out.size))
  have HC6 := Lib.hid (HC4.out.below bb HC4.out.lt)
  have HCL := Lib.hid (show b < W4.heap.size from HC4.out.lt)
  have HX6 := Lib.hid (n5.below b6 n5.lt)
  have HY6 := Lib.hid n6
  have ew5 := hW5.symm
  have HW6 := Lib.hid hW6
  clear b4 n5 b5 n6 b6 bb hW5 hW6 HB3 HC3 HB4 HC4
  go_upto_region 7 with fail
  rw [← HW6.out]
  obtain ⟨g5, hg5⟩ : ∃ g5, g5 = W4.heap.size := ⟨_, rfl⟩
  obtain ⟨g6, hg6⟩ : ∃ g6, g6 = W4.heap.size + 1 := ⟨_, rfl⟩
  rw [← hg6, ← hg5]
  have HK5 := Lib.hid (show Blk W6 g5 38 #[.int .i64 (-1), .string ⟨#[]⟩, .bool false, .int .i64 9] by rw [hg5]; exact HX6.out)
  have HK6 := Lib.hid (show Blk W6 g6 38 #[.int .i64 255, .string ⟨#[]⟩, .bool true, .int .i64 0] by rw [hg6, ← s5]; exact HY6.out)
  have HNE := Lib.hid (show b < g5 ∧ b < g6 by have := HCL.out; omega)
  have H1B := Lib.hid (show 1 < b by have := HT.out.lt; have := HBB.out; omega)
  clear hg5 hg6 s5 ew5 HW6 HX6 HY6 HCL
  go_wp2_with fail
  refine (Mac_any 0 0 (by decide) (by decide) 0 0 (by decide) (by decide) M HM.out W6 (HT.out.below HB6.out)).mono ?_
  rintro e W7 ⟨rfl, b7⟩
  have n7 := Blk.new W7 32 z32
  obtain ⟨V, hV⟩ : ∃ V, V = (W7.alloc (.cells z32 32)).setRow W7.heap.size M := ⟨_, rfl⟩
  have hb : Blk V W7.heap.size 32 M := by rw [hV]; exact setRow_heap _ _ _ _ _ _ n7
  have b8 : Below W7.heap.size W7 V := by rw [hV]; exact below_setRow ((Below.refl _ W7).alloc (Nat.le_refl _) _) (Nat.le_refl _) _
  have bb := b7.trans (b8.mono b7.size)
  have HBV := Lib.hid (HB6.out.trans (bb.mono HB6.out.size))
  have HTV := Lib.hid (HT.out.below HBV.out)
  have HCV := Lib.hid (HC6.out.below bb HC6.out.lt)
  have HV5 := Lib.hid (HK5.out.below bb HK5.out.lt)
  have HV6 := Lib.hid (HK6.out.below bb HK6.out.lt)
  have HN7 := Lib.hid n7
  have HMO := Lib.hid (show z32.size = M.size by rw [HZK.out.size, HMK.out.size])
  have HVE := Lib.hid hV
  obtain ⟨gm, hgm⟩ : ∃ gm, gm = W7.heap.size := ⟨_, rfl⟩
  rw [← hgm] at hb
  have HG := Lib.hid hgm
  have HKM := Lib.hid hb
  have HN5 := Lib.hid (show some g5 ≠ some b by have := HNE.out; intro h; injection h; omega)
  have HN6 := Lib.hid (show some g6 ≠ some b by have := HNE.out; intro h; injection h; omega)
  have HNM := Lib.hid (show some gm ≠ some b by have h1 := HC6.out.lt; have h2 := b7.size; intro h; injection h; omega)
  clear n7 hV hb b7 b8 bb hgm HB6 HC6 HK5 HK6
  go_upto_region 8 with (refine wpList_store_row rfl 32 (.tmp 7) (.tmp 19) rfl W7.heap.size M rfl rfl 32 z32 HN7.out HMK.out.info HMO.out HMK.out.one ?_)
  rw [← HVE.out, ← HG.out]
  clear HVE HG HN7
  have D0 : Below V.heap.size V V.drew := (Below.refl _ V).drew
  have B0 : V.grownBy V.drew (some b) := grown_of_below (.refl _ _) D0
  refine held_start (fun W => V.grownBy W (some b)) (by kernel_rfl) (n := 47) rfl ?_
  obtain ⟨W0, hW0⟩ : ∃ W0, W0 = V.drew := ⟨_, rfl⟩
  rw [← hW0] at B0 D0 ⊢
  clear hW0
  refine held_call 0 rfl (by kernel_rfl) (by kernel_rfl) (by kernel_rfl) (works_t _ (HTV.out.grown B0 H1B.out)) (fun w' h => grown_of_below B0 h) ?_
  intro W1 hW1
  have D1 := bel_in D0 hW1
  have B1 := grown_of_below B0 hW1
  clear hW1 B0 D0
  refine held_free 1 (.bool true) rfl (by kernel_rfl) (by kernel_rfl) (by kernel_rfl) (by kernel_rfl) B1 (fun _ _ => by kernel_rfl) ?_
  refine held_free 2 (.bool true) rfl (by kernel_rfl) (by kernel_rfl) (by kernel_rfl) (by kernel_rfl) B1 (fun _ _ => by kernel_rfl) ?_
  refine held_free 3 (.bool true) rfl (by kernel_rfl) (by kernel_rfl) (by kernel_rfl) (by kernel_rfl) B1 (fun _ _ => by kernel_rfl) ?_
  refine held_free 4 (.bool true) rfl (by kernel_rfl) (by kernel_rfl) (by kernel_rfl) (by kernel_rfl) B1 (fun _ _ => by kernel_rfl) ?_
  refine held_free 6 (.string Z) rfl (by kernel_rfl) (by kernel_rfl) (by kernel_rfl) (by kernel_rfl) B1 (fun _ _ => by kernel_rfl) ?_
  refine held_call 5 rfl (by kernel_rfl) (by kernel_rfl) (by kernel_rfl) (Bytes_any 0 (by decide) Z HZ.out _) (fun w' h => grown_of_below B1 h) ?_
  intro W2 hW2
  have D2 := bel_in D1 hW2
  have B2 := grown_of_below B1 hW2
  clear hW2 B1 D1
  refine held_free 7 (.bool true) rfl (by kernel_rfl) (by kernel_rfl) (by kernel_rfl) (by kernel_rfl) B2 (fun _ _ => ex_streq 9 9 (.tmp 25) (.tmp 26) (by kernel_rfl) (Z) (Z) (by kernel_rfl) (by kernel_rfl) (by kernel_rfl) rfl) ?_
  refine held_free 8 (.bool true) rfl (by kernel_rfl) (by kernel_rfl) (by kernel_rfl) (by kernel_rfl) B2 (fun _ _ => by kernel_rfl) ?_
  refine held_free 9 (.bool true) rfl (by kernel_rfl) (by kernel_rfl) (by kernel_rfl) (by kernel_rfl) B2 (fun _ _ => by kernel_rfl) ?_
  refine held_free 11 (.pointer (some ⟨b, 0, none⟩)) rfl (by kernel_rfl) (by kernel_rfl) (by kernel_rfl) (by kernel_rfl) B2 (fun _ _ => by kernel_rfl) ?_
  refine held_call 10 rfl (by kernel_rfl) (by kernel_rfl) (by kernel_rfl) (Token_any 0 (by decide) _ (HTV.out.grown B2 H1B.out)) (fun w' h => grown_of_below B2 h) ?_
  intro W3 hW3
  have D3 := bel_in D2 hW3
  have B3 := grown_of_below B2 hW3
  clear hW3 B2 D2
  refine held_call 12 rfl (by kernel_rfl) (by kernel_rfl) (by kernel_rfl) (moves (U32_t b T 0 W3 (by omega) (by omega) (HCV.out.below D3 HCV.out.lt)) (by rw [HTK.out])) (fun w' h => B3.trans h) ?_
  intro W4 hW4
  have B4 := B3.trans hW4
  clear hW4 B3 D3
  refine held_free 13 (.bool true) rfl (by kernel_rfl) (by kernel_rfl) (by kernel_rfl) (by kernel_rfl) B4 (fun _ _ => ex_inteq .u32 24 24 (.tmp 30) (.tmp 32) (by kernel_rfl) ((tok 0 : Int)) ((tok 0 : Int)) (by kernel_rfl) (by kernel_rfl) (by kernel_rfl) rfl) ?_
  refine held_free 14 (.bool true) rfl (by kernel_rfl) (by kernel_rfl) (by kernel_rfl) (by kernel_rfl) B4 (fun _ _ => by kernel_rfl) ?_
  refine held_free 15 (.bool true) rfl (by kernel_rfl) (by kernel_rfl) (by kernel_rfl) (by kernel_rfl) B4 (fun _ _ => by kernel_rfl) ?_
  refine held_free 16 (.agg M) rfl (by kernel_rfl) (by kernel_rfl) (by kernel_rfl) (by kernel_rfl) B4 (fun W b' => exec_row_ 32 (.tmp 7) (by kernel_rfl) gm (by kernel_rfl) 32 M (0, 0) _ (HKM.out.grown b' HNM.out) digest_under rfl HMK.out.info) ?_
  refine held_free 17 (.string Z) rfl (by kernel_rfl) (by kernel_rfl) (by kernel_rfl) (by kernel_rfl) B4 (fun _ _ => by kernel_rfl) ?_
  refine held_free 18 (.string Z) rfl (by kernel_rfl) (by kernel_rfl) (by kernel_rfl) (by kernel_rfl) B4 (fun _ _ => by kernel_rfl) ?_
  refine held_free 19 (.string ZZ) rfl (by kernel_rfl) (by kernel_rfl) (by kernel_rfl) (by kernel_rfl) B4 (fun _ _ => ex_strcat 9 9 (.tmp 37) (.tmp 38) (by kernel_rfl) (Z) (Z) ZZ (by kernel_rfl) (by kernel_rfl) (by omega) (by omega) HZZ.out) ?_
  refine held_free 20 (.string Z) rfl (by kernel_rfl) (by kernel_rfl) (by kernel_rfl) (by kernel_rfl) B4 (fun _ _ => by kernel_rfl) ?_
  refine held_call 21 rfl (by kernel_rfl) (by kernel_rfl) (by kernel_rfl) (Of_any ZZ Z M HMC.out _ (HTV.out.grown B4 H1B.out) (by omega) (by omega)) (fun w' h => grown_of_below B4 h) ?_
  intro W5 hW5
  have B5 := grown_of_below B4 hW5
  clear hW5 B4
  refine held_free 22 (.bool true) rfl (by kernel_rfl) (by kernel_rfl) (by kernel_rfl) (by kernel_rfl) B5 (fun _ _ => ex_digeq 32 (.tmp 36) (.tmp 41) (by kernel_rfl) (macn 0 0 0 0) (macn_length _ _ _ _) M HM.out (by kernel_rfl) (by kernel_rfl)) ?_
  refine held_free 23 (.bool true) rfl (by kernel_rfl) (by kernel_rfl) (by kernel_rfl) (by kernel_rfl) B5 (fun _ _ => by kernel_rfl) ?_
  refine held_free 24 (.bool true) rfl (by kernel_rfl) (by kernel_rfl) (by kernel_rfl) (by kernel_rfl) B5 (fun _ _ => by kernel_rfl) ?_
  refine held_free 25 (.agg M) rfl (by kernel_rfl) (by kernel_rfl) (by kernel_rfl) (by kernel_rfl) B5 (fun W b' => exec_row_ 32 (.tmp 7) (by kernel_rfl) gm (by kernel_rfl) 32 M (0, 0) _ (HKM.out.grown b' HNM.out) digest_under rfl HMK.out.info) ?_
  refine held_free 26 (.string Z) rfl (by kernel_rfl) (by kernel_rfl) (by kernel_rfl) (by kernel_rfl) B5 (fun _ _ => by kernel_rfl) ?_
  refine held_call 27 rfl (by kernel_rfl) (by kernel_rfl) (by kernel_rfl) (Of_any ⟨#[]⟩ Z M HMC0.out _ (HTV.out.grown B5 H1B.out) (by decide) (by omega)) (fun w' h => grown_of_below B5 h) ?_
  intro W6 hW6
  have B6 := grown_of_below B5 hW6
  clear hW6 B5
  refine held_free 28 (.bool true) rfl (by kernel_rfl) (by kernel_rfl) (by kernel_rfl) (by kernel_rfl) B6 (fun _ _ => ex_digeq 32 (.tmp 45) (.tmp 47) (by kernel_rfl) (macn 0 0 0 0) (macn_length _ _ _ _) M HM.out (by kernel_rfl) (by kernel_rfl)) ?_
  refine held_free 29 (.bool true) rfl (by kernel_rfl) (by kernel_rfl) (by kernel_rfl) (by kernel_rfl) B6 (fun _ _ => by kernel_rfl) ?_
  refine held_free 30 (.bool true) rfl (by kernel_rfl) (by kernel_rfl) (by kernel_rfl) (by kernel_rfl) B6 (fun _ _ => by kernel_rfl) ?_
  refine held_free 31 (.agg #[.int .i64 (-1), .string ⟨#[]⟩, .bool false, .int .i64 9]) rfl (by kernel_rfl) (by kernel_rfl) (by kernel_rfl) (by kernel_rfl) B6 (fun W b' => exec_row_ 38 (.tmp 5) (by kernel_rfl) (g5) (by kernel_rfl) 38 _ (0, 0) _ (HV5.out.grown b' HN5.out) Tryd.underlying38 rfl (by kernel_rfl)) ?_
  refine held_free 33 (.agg #[.int .i64 255, .string ⟨#[]⟩, .bool true, .int .i64 0]) rfl (by kernel_rfl) (by kernel_rfl) (by kernel_rfl) (by kernel_rfl) B6 (fun W b' => exec_row_ 38 (.tmp 6) (by kernel_rfl) (g6) (by kernel_rfl) 38 _ (0, 0) _ (HV6.out.grown b' HN6.out) Tryd.underlying38 rfl (by kernel_rfl)) ?_
  refine held_call 32 rfl (by kernel_rfl) (by kernel_rfl) (by kernel_rfl) (Address_any 18446744073709551615 0 (by decide) (by decide) (-1) ⟨#[]⟩ (by decide) false 9 255 0 (by decide) (by decide) L HL.out _ (HTV.out.grown B6 H1B.out)) (fun w' h => grown_of_below B6 h) ?_
  intro W7 hW7
  have B7 := grown_of_below B6 hW7
  clear hW7 B6
  refine held_call 34 rfl (by kernel_rfl) (by kernel_rfl) (by kernel_rfl) (Address_any 18446744073709551615 0 (by decide) (by decide) 255 ⟨#[]⟩ (by decide) true 0 255 0 (by decide) (by decide) L HL.out _ (HTV.out.grown B7 H1B.out)) (fun w' h => grown_of_below B7 h) ?_
  intro W8 hW8
  have B8 := grown_of_below B7 hW8
  clear hW8 B7
  refine held_free 35 (.bool true) rfl (by kernel_rfl) (by kernel_rfl) (by kernel_rfl) (by kernel_rfl) B8 (fun _ _ => ex_streq 9 9 (.tmp 52) (.tmp 54) (by kernel_rfl) (L) (L) (by kernel_rfl) (by kernel_rfl) (by kernel_rfl) rfl) ?_
  refine held_free 36 (.bool true) rfl (by kernel_rfl) (by kernel_rfl) (by kernel_rfl) (by kernel_rfl) B8 (fun _ _ => by kernel_rfl) ?_
  refine held_free 37 (.bool true) rfl (by kernel_rfl) (by kernel_rfl) (by kernel_rfl) (by kernel_rfl) B8 (fun _ _ => by kernel_rfl) ?_
  refine held_call 38 rfl (by kernel_rfl) (by kernel_rfl) (by kernel_rfl) (Short_any 18446744073709551615 18446744073709551615 (by decide) (by decide) 4294967295 0 (by decide) (by decide) Q HQ.out _ (HTV.out.grown B8 H1B.out)) (fun w' h => grown_of_below B8 h) ?_
  intro W9 hW9
  have B9 := grown_of_below B8 hW9
  clear hW9 B8
  refine held_call 39 rfl (by kernel_rfl) (by kernel_rfl) (by kernel_rfl) (Bytes_any 18446744073709551615 (by decide) ⟨#[255, 255, 255, 255, 255, 255, 255, 255]⟩ full_bytes _) (fun w' h => grown_of_below B9 h) ?_
  intro W10 hW10
  have B10 := grown_of_below B9 hW10
  clear hW10 B9
  refine held_call 40 rfl (by kernel_rfl) (by kernel_rfl) (by kernel_rfl) (Bytes_any 18446744073709551615 (by decide) ⟨#[255, 255, 255, 255, 255, 255, 255, 255]⟩ full_bytes _) (fun w' h => grown_of_below B10 h) ?_
  intro W11 hW11
  have B11 := grown_of_below B10 hW11
  clear hW11 B10
  refine held_free 41 (.string FF) rfl (by kernel_rfl) (by kernel_rfl) (by kernel_rfl) (by kernel_rfl) B11 (fun _ _ => ex_strcat 9 9 (.tmp 59) (.tmp 60) (by kernel_rfl) (⟨#[255, 255, 255, 255, 255, 255, 255, 255]⟩) (⟨#[255, 255, 255, 255, 255, 255, 255, 255]⟩) FF (by kernel_rfl) (by kernel_rfl) (by decide) (by decide) HFF.out) ?_
  refine held_call 42 rfl (by kernel_rfl) (by kernel_rfl) (by kernel_rfl) (Of_any FF ⟨#[255, 255, 255, 255, 0, 0, 0, 0]⟩ N HNC.out _ (HTV.out.grown B11 H1B.out) (by omega) (by decide)) (fun w' h => grown_of_below B11 h) ?_
  intro W12 hW12
  have B12 := grown_of_below B11 hW12
  clear hW12 B11
  refine held_call 43 rfl (by kernel_rfl) (by kernel_rfl) (by kernel_rfl) (HTL.out _) (fun w' h => grown_of_below B12 h) ?_
  intro W13 hW13
  have B13 := grown_of_below B12 hW13
  clear hW13 B12
  refine held_free 44 (.bool true) rfl (by kernel_rfl) (by kernel_rfl) (by kernel_rfl) (by kernel_rfl) B13 (fun _ _ => ex_streq 9 9 (.tmp 58) (.tmp 63) (by kernel_rfl) (Q) (Q) (by kernel_rfl) (by kernel_rfl) (by kernel_rfl) rfl) ?_
  refine held_free 45 (.bool true) rfl (by kernel_rfl) (by kernel_rfl) (by kernel_rfl) (by kernel_rfl) B13 (fun _ _ => by kernel_rfl) ?_
  refine held_free 46 (.bool true) rfl (by kernel_rfl) (by kernel_rfl) (by kernel_rfl) (by kernel_rfl) B13 (fun _ _ => by kernel_rfl) ?_
  refine held_end (by kernel_rfl) ?_
  go_wp2_with fail
  exact ret_slot 0 (.bool true) (by kernel_rfl) (by kernel_rfl) (by kernel_rfl) ⟨rfl, HBV.out.trans (below_of_only B13 HBB.out HBV.out.size)⟩

set_option maxRecDepth 100000 in
theorem lifted (os : Os) (started : os.Started) (H : Type) (enc : TypeId × Value → H) :
    ReturnsInHanded {} Tryd.checked os 9 .any (fun w args => (Rows.keyKnownSpec.pre enc Tryd.prog Tryd.f9 [] false w args ∧ laidMetH Tryd.prog laid1 w) ∧ sizedMet enc Tryd.prog Tryd.f9 (OpenSpec.ofChange Rows.keyKnownSpec) false w args)
      (Rows.keyKnownSpec.post enc Tryd.prog Tryd.f9 false true false false) := by
  refine returnsInHanded_of_change_and (C := Tryd.checked) (X := fun w _ => laidMetH Tryd.prog laid1 w) (fun _ _ _ hh h => h.of_heap hh) own started (by kernel_rfl) Tryd.func9
    (ChangeSpec.witness_shaped (enc := enc) (C := Tryd.checked) (os := os) (X := fun w _ => laidMetH Tryd.prog laid1 w) false (World.doorLaid Tryd.prog 400 os) #[] 8 rfl (World.shaped_of_RefB (by kernel_rfl) (by kernel_rfl)) (by kernel_rfl) (by kernel_rfl) (by kernel_rfl) (door_met os _)) ?_
  intro W base args ds gs before hval0 hW hcnd hsz0 hL _
  have hsz : (DataW.weightsEach Tryd.prog (Tryd.f9.params.toList ++ Rows.keyKnownSpec.plain.varTypes Tryd.prog) (ds ++ gs)).all (· ≤ reachBytes) = true := hsz0
  have ht := table_of hL
  have hval : ∀ (j : Nat) t v, Tryd.f9.params[j]? = some t → args[j]? = some v → Value.okWide Tryd.prog W .any base t v := hval0
  have hW' := hW
  obtain ⟨p, q, hA0, hV, rfl, hfz, hnd⟩ := hW
  have hA : DataW.TrodAll enc Tryd.prog W 0 (fun _ => true) true Tryd.f9.params.toList args.toList ds p := hA0
  rw [Tryd.params9] at hA hval hsz
  obtain ⟨rfl, rfl, rfl⟩ := trodAll_none hA
  obtain ⟨rfl, rfl⟩ := trodVars_none hV
  clear hA0 hval0
  simp only [List.append_nil] at hW'
  refine (walk  W ht).mono fun e W' ⟨he, bel⟩ => ?_
  subst he
  exact ⟨_, rfl, _, _, _, [], _, [], hW', trodAll_mk1 (shut_bool Tryd.underlying4 _), rfl, rfl, bel.frame _, fun h => by cases h⟩

theorem over : Rows.KeyKnownSaid :=
  OpenClaim.holds_of_wide 9 Tryd.f9 rfl rfl rfl rfl rfl rfl rfl ⟨rfl, rfl, rfl, rfl, rfl⟩ rfl rfl rfl rfl rfl (by kernel_rfl) Tryd.func9 (by kernel_rfl)
    (of_decide_eq_true (by kernel_rfl)) (by unfold Func.isWrapper; first | (rw [if_pos (by decide +kernel)]; kernel_rfl) | (rw [if_neg (by decide +kernel)]; exact ⟨rfl, rfl⟩))
    (fun os started H enc _ => lifted os started H enc)

theorem proved : Rows.KeyKnownCardSaid :=
  Claim7.holds_tied_plain_at .later [] [.data, .data] true _ false
    over (fun _ h => by cases h) (by kernel_rfl) (fun _ h => by cases h) keyKnown_row_tie rfl ⟨rfl, rfl⟩ (by kernel_rfl) rfl
    (fun f fn hf hfn => by
      obtain rfl : f = 9 := Option.some.inj ((show Tryd.prog.funcNamed "plait/plaitlaw08.KeyKnown" = some 9 by kernel_rfl).symm.trans hf) |>.symm
      obtain rfl : fn = Tryd.f9 := (Option.some.inj (Tryd.func9.symm.trans hfn)).symm
      exact ⟨by kernel_rfl, fun j t ht => by
        rw [Tryd.params9] at ht
        simp at ht⟩)
    (by kernel_rfl)
#print axioms proved
end Go.Proofs.YtcbakfnpbhgjoaaDoor.keyKnown
