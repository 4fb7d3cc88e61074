/-
  AddrReads returns true for all texts, drafts, places and bytes. No conditions.
-/
import Derived.Test.YtcofdiamlmlhfaaAddrMore
import Derived.WalkKit
import Derived.ProofKit
import Derived.OpenShut
import Derived.ShutString
import Derived.ChangeOld
import Derived.Below
import Derived.SizedLaws
namespace Go.Proofs.Ytcofdiamlmlhfaa.addrReads
open Go.ChangeShapes Go.WideShapes Go.ChangeAt Go.RowKit
open Go.ChangeMaps (open_string shut_string)
set_option linter.unusedVariables false

set_option maxHeartbeats 4000000 in
set_option maxRecDepth 100000 in
theorem walk (s : ByteArray) (hsz : s.size ≤ 140737488351232) (d : Dr) (hd : d.Ok) (n0 n1 : Nat) (hn0 : n0 ≤ 255) (hn1 : n1 ≤ 255) (w : World) :
    Calls Try.prog 4 #[.string s, .agg (drv d), .agg #[.int .u8 (n0 : Int), .int .u8 (n1 : Int)]] w fun e w' => e = .returned (.bool true) ∧ Below w.heap.size w w' := by
  obtain ⟨m0, F, hF, nF, mF, lF, uF⟩ := front_n 60 s
  have hF60 : F.size ≤ 60 := by omega
  have mM : min (s.size : Int) 60 = (m0 : Int) := by split at mF <;> omega
  obtain ⟨x, hx⟩ : ∃ x, x = d.ad := ⟨_, rfl⟩
  have HXM := Lib.hid (show x.May by rw [hx]; exact d.ad_may hd)
  have HCX := Lib.hid (show ∀ W, Calls Try.prog 14 #[.agg (drv d)] W fun e w' => e = .returned (.agg (adv x)) ∧ Below W.heap.size W w' from fun W => by rw [hx]; exact Draft_any d hd W)
  obtain ⟨T, hT⟩ : ∃ T, T = txt x.body := ⟨_, rfl⟩
  have HET := Lib.hid (show encV x = .tuple #[.string T, .int .i64 0] by rw [encV_t x HXM.out, hT])
  have hT10 : 6 ≤ T.size ∧ T.size ≤ 28 := by
    refine ⟨?_, by rw [hT]; exact body_le x HXM.out⟩
    rw [hT, txt_size, x.body_size]; unfold Ad.size; have := HXM.out.2.1; omega
  obtain ⟨b0, hb0⟩ : ∃ b0, b0 = w.heap.size := ⟨_, rfl⟩
  obtain ⟨b1, hb1⟩ : ∃ b1, b1 = w.heap.size + 1 := ⟨_, rfl⟩
  obtain ⟨w0, hw0⟩ : ∃ V, V = (w.alloc (.cells (drv d) 35)).alloc (.cells #[.int .u8 (n0 : Int), .int .u8 (n1 : Int)] 36) := ⟨_, rfl⟩
  have HD0 := Lib.hid (show Blk w0 b0 35 (drv d) by rw [hw0, hb0]; exact (Blk.new _ _ _).alloc _)
  have HN0 := Lib.hid (show Blk w0 b1 36 #[.int .u8 (n0 : Int), .int .u8 (n1 : Int)] by
    rw [hw0, hb1]
    have := Blk.new (w.alloc (.cells (drv d) 35)) 36 #[.int .u8 (n0 : Int), .int .u8 (n1 : Int)]
    simpa using this)
  have HB0 := Lib.hid (show Below w.heap.size w w0 by rw [hw0]; exact ((Below.refl _ w).alloc (Nat.le_refl _) _).alloc (by simp) _)
  have HDI := Lib.hid (drv_info d hd.b)
  have HW0 := Lib.hid hw0
  have HE0 := Lib.hid hb0
  have HE1 := Lib.hid hb1
  have HTT := Lib.hid hT
  have H10 := Lib.hid hT10
  have HF := Lib.hid hF
  have eF := hF.symm
  have H60 := Lib.hid hF60
  have hN0 := Lib.hid hn0
  have hN1 := Lib.hid hn1
  clear hF nF uF hx hw0 hb0 hb1 hT hd hF60 hn0 hn1
  go_enter Try.func4, Try.ntmps4
  go_upto_region 2 with fail
  rw [← HW0.out, ← HE1.out, ← HE0.out]
  clear mF mM lF eF HW0
  go_wp2_with (refine wpList_load_row_w (by rfl) 35 _ rfl b0 rfl 35 (drv d) (0, 0) _ ?_ Try.underlying35 rfl HDI.out ?_; exact HD0.out)
  refine (HCX.out w0).mono ?_
  rintro e W1 ⟨rfl, b⟩
  have HN1 := Lib.hid (HN0.out.below b HN0.out.lt)
  have HB1 := Lib.hid (HB0.out.trans (b.mono (by have := HB0.out.size; omega)))
  clear b HN0 HB0 HD0
  go_wp2_with fail
  refine (EncodeAddR_any x W1).mono ?_
  rintro e W2 ⟨rfl, b⟩
  rw [HET.out]
  have HN2 := Lib.hid (HN1.out.below b HN1.out.lt)
  have HB2 := Lib.hid (HB1.out.trans (b.mono HB1.out.size))
  have e0 : ((T.size : Int) == 0) = false := by rw [beq_eq_false_iff_ne]; omega
  clear b HN1 HB1
  go_upto_region 5 with fail
  obtain ⟨g, hg⟩ : ∃ g, g = W2.heap.size := ⟨_, rfl⟩
  obtain ⟨cap, V, hcv, hbt, hbl, hvs⟩ := text_bytes W2 T
  have HG := Lib.hid hg
  have HNV := Lib.hid (HN2.out.below hbl HN2.out.lt)
  have HBV := Lib.hid (HB2.out.trans (hbl.mono HB2.out.size))
  rw [← hg] at hbt hvs
  have HBT := Lib.hid hbt
  have HVS := Lib.hid (show g < V.heap.size ∧ w.heap.size ≤ g ∧ b1 < g from ⟨by omega, by rw [hg]; exact HB2.out.size, by rw [hg]; exact HN2.out.lt⟩)
  clear hbt hbl hvs hg HN2 HB2
  go_upto_region 6 with fail
  rw [← HG.out]
  clear hcv e0
  obtain ⟨r, hr⟩ : ∃ r, n0 % T.size = r := ⟨_, rfl⟩
  have hrl : r < T.size := by rw [← hr]; exact Nat.mod_lt _ (by have := H10.out; omega)
  have HRM := Lib.hid hr
  have HRL := Lib.hid hrl
  obtain ⟨l, hl⟩ : ∃ l, l = T.data.toList := ⟨_, rfl⟩
  have hll : l.length = T.size := by rw [hl]; exact len_data T
  rw [← hl] at HBT
  have HLL := Lib.hid hll
  obtain ⟨v, hv⟩ : ∃ v : UInt8, v.toNat = n1 := ⟨UInt8.ofNat n1, by have := hN1.out; rw [UInt8.toNat_ofNat']; omega⟩
  have HV := Lib.hid hv
  clear hr hrl hl hll hv
  have B0 : Below V.heap.size V V.drew := (Below.refl _ V).drew
  refine walk_start 10 (fun W => Below V.heap.size V W) (by kernel_rfl) (n := 11) rfl ?_
  obtain ⟨W0, hW0⟩ : ∃ W0, W0 = V.drew := ⟨_, rfl⟩
  rw [← hW0] at B0 ⊢
  clear hW0
  refine walk_free 0 (.slice (some ⟨g, 0, none⟩) T.size cap) rfl (by kernel_rfl) (by kernel_rfl) (by kernel_rfl) (by kernel_rfl) (by kernel_rfl) (by kernel_rfl) B0 (fun _ _ => by kernel_rfl) ?_
  refine walk_free 1 (.pointer (some ⟨b1, 0, none⟩)) rfl (by kernel_rfl) (by kernel_rfl) (by kernel_rfl) (by kernel_rfl) (by kernel_rfl) (by kernel_rfl) B0 (fun _ _ => by kernel_rfl) ?_
  refine walk_free 2 (.int .u8 (n0 : Int)) rfl (by kernel_rfl) (by kernel_rfl) (by kernel_rfl) (by kernel_rfl) (by kernel_rfl) (by kernel_rfl) B0 (fun W b => ex_load 5 (.tmp 41) (by kernel_rfl) ⟨b1, 0, none⟩ (by kernel_rfl) (by kernel_rfl) ((HNV.out.below b HNV.out.lt).cell 0)) ?_
  refine walk_free 3 (.int .i64 (n0 : Int)) rfl (by kernel_rfl) (by kernel_rfl) (by kernel_rfl) (by kernel_rfl) (by kernel_rfl) (by kernel_rfl) B0 (fun W _ => ex_convert_to (v := .int .u8 (n0 : Int)) 5 3 (.tmp 42) (by kernel_rfl) (by kernel_rfl) (conv_u8_int n0 hN0.out W)) ?_
  refine walk_free 4 (.slice (some ⟨g, 0, none⟩) T.size cap) rfl (by kernel_rfl) (by kernel_rfl) (by kernel_rfl) (by kernel_rfl) (by kernel_rfl) (by kernel_rfl) B0 (fun _ _ => by kernel_rfl) ?_
  refine walk_free 5 (.int .i64 (T.size : Int)) rfl (by kernel_rfl) (by kernel_rfl) (by kernel_rfl) (by kernel_rfl) (by kernel_rfl) (by kernel_rfl) B0 (fun _ _ => by kernel_rfl) ?_
  refine walk_free 6 (.int .i64 (r : Int)) rfl (by kernel_rfl) (by kernel_rfl) (by kernel_rfl) (by kernel_rfl) (by kernel_rfl) (by kernel_rfl) B0 (fun W _ => ex_rem 3 3 (.tmp 43) (.tmp 45) (by kernel_rfl) n0 T.size r (by kernel_rfl) (by kernel_rfl) (by kernel_rfl) (by have := H10.out; omega) (by have := H10.out; omega) HRM.out) ?_
  refine walk_free 7 (.pointer (some ⟨b1, 1, none⟩)) rfl (by kernel_rfl) (by kernel_rfl) (by kernel_rfl) (by kernel_rfl) (by kernel_rfl) (by kernel_rfl) B0 (fun _ _ => by kernel_rfl) ?_
  refine walk_free 8 (.int .u8 (n1 : Int)) rfl (by kernel_rfl) (by kernel_rfl) (by kernel_rfl) (by kernel_rfl) (by kernel_rfl) (by kernel_rfl) B0 (fun W b => ex_load 5 (.tmp 47) (by kernel_rfl) ⟨b1, 1, none⟩ (by kernel_rfl) (by kernel_rfl) ((HNV.out.below b HNV.out.lt).cell 1)) ?_
  refine walk_free 9 (.pointer (some ⟨g, r, none⟩)) rfl (by kernel_rfl) (by kernel_rfl) (by kernel_rfl) (by kernel_rfl) (by kernel_rfl) (by kernel_rfl) B0 (fun W _ => ex_index (t := 38) (x := .tmp 40) (y := .tmp 46) (n := .slice (some ⟨g, 0, none⟩) T.size cap) (i := .int .i64 (r : Int)) (by kernel_rfl) (by kernel_rfl) (by kernel_rfl) (place_at g r T.size cap HRL.out (by have := H10.out; omega) W)) ?_
  refine walk_one 10 (by kernel_rfl) (do_last 10 rfl (by kernel_rfl) (ex_store_cell 5 (.tmp 49) (.tmp 48) (by kernel_rfl) ⟨g, r, none⟩ (.int .u8 (n1 : Int)) (by kernel_rfl) (by kernel_rfl) (store_byte _ g r _ _ ((HBT.out.below B0 HVS.out.1).cell r (by rw [HLL.out]; exact HRL.out)) ((HBT.out.below B0 HVS.out.1).frozen r (by rw [HLL.out]; exact HRL.out)))) (by kernel_rfl) ?_)
  refine walk_end_at ⟨#[Value.string F, Value.agg (drv d), Value.agg #[Value.int IntKind.u8 ↑n0, Value.int IntKind.u8 ↑n1], undef, Value.pointer (some { block := b0, off := 0 }), .pointer (some ⟨b1, 0, none⟩), Value.bool false, Value.string T, Value.int IntKind.i64 0, .slice (some ⟨g, 0, none⟩) T.size cap, undef, undef, undef, undef, undef, undef, undef, undef, undef, undef, Value.string s, Value.string s, Value.int IntKind.i64 ↑s.size, Value.int IntKind.i64 ↑m0, Value.string F, Value.tuple #[Value.string T, Value.int IntKind.i64 0], Value.agg (drv d), Value.agg (adv x), Value.tuple #[Value.string T, Value.int IntKind.i64 0], Value.string T, Value.int IntKind.i64 0, Value.int IntKind.i64 0, Value.bool false, Value.bool false, Value.string T, Value.int IntKind.i64 ↑T.size, Value.bool false, Value.bool false, Value.string T, Value.slice (some { block := g, off := 0 }) T.size cap, .slice (some ⟨g, 0, none⟩) T.size cap, .pointer (some ⟨b1, 0, none⟩), .int .u8 (n0 : Int), .int .i64 (n0 : Int), .slice (some ⟨g, 0, none⟩) T.size cap, .int .i64 (T.size : Int), .int .i64 (r : Int), .pointer (some ⟨b1, 1, none⟩), .int .u8 (n1 : Int), .pointer (some ⟨g, r, none⟩), undef, undef, undef, undef, undef, undef, undef, undef, undef, undef, undef, undef, undef, undef, undef, undef, undef, undef, undef, undef, undef, undef, undef, undef, undef, undef, undef, undef, undef, undef, undef, undef, undef, undef, undef, undef, undef, undef, undef, undef, undef, undef, undef, undef, undef, undef, undef, undef, undef, undef, undef, undef, undef, undef, undef, undef, undef, undef, undef], []⟩ (by kernel_rfl) (by kernel_rfl) ?_
  obtain ⟨Y, hY⟩ : ∃ Y, Y = W0.setCell ⟨g, r, none⟩ (.int .u8 (n1 : Int)) := ⟨_, rfl⟩
  rw [← hY]
  obtain ⟨L2, hL2⟩ : ∃ L2, L2 = l.set r v := ⟨_, rfl⟩
  have HSZ2 := Lib.hid (show L2.length = T.size by rw [hL2, List.length_set]; exact HLL.out)
  have HBTY := Lib.hid (show Bts Y g L2 by rw [hY, hL2, ← HV.out]; exact (HBT.out.below B0 HVS.out.1).set_ r v (by rw [HLL.out]; exact HRL.out))
  have hVY : Below g V Y := by rw [hY]; exact (B0.mono (Nat.le_of_lt HVS.out.1)).setCell (p := ⟨g, r, none⟩) (Nat.le_refl g) _
  have HNY := Lib.hid (show Blk Y b1 36 #[.int .u8 (n0 : Int), .int .u8 (n1 : Int)] from HNV.out.below hVY HVS.out.2.2)
  have HBY := Lib.hid (show Below w.heap.size w Y by have q := HBV.out.trans (hVY.mono HVS.out.2.1); first | exact q | (rw [HE0.out]; exact q))
  obtain ⟨U, hU⟩ : ∃ U, U = txt L2 := ⟨_, rfl⟩
  obtain ⟨C, hC⟩ : ∃ C, C = T.extract 0 r := ⟨_, rfl⟩
  obtain ⟨E, hE⟩ : ∃ E, E = T ++ F := ⟨_, rfl⟩
  have HU := Lib.hid hU
  have HC := Lib.hid hC
  have HE := Lib.hid hE
  obtain ⟨AR, hAR⟩ : ∃ A : Array Value, A = #[.string F, .string T, .string U, .string C, .string E] := ⟨_, rfl⟩
  have HIDX := Lib.hid (show ∀ j < 5, ∃ t : ByteArray, t.size ≤ 200 ∧ ∀ W, (Instr.index 39 (.agg AR) (.int .i64 ((j : Nat) : Int))).run Try.prog W = .ok (.string t) W by
    intro j hj
    have z1 := H10.out
    have z2 := H60.out
    have z3 : U.size ≤ 28 := by rw [hU, txt_size, HSZ2.out]; exact z1.2
    have z4 : C.size ≤ 28 := by rw [hC, ByteArray.size_extract]; omega
    have z5 : E.size ≤ 88 := by rw [hE, ByteArray.size_append]; omega
    have hj5 : j = 0 ∨ j = 1 ∨ j = 2 ∨ j = 3 ∨ j = 4 := by omega
    subst hAR
    rcases hj5 with rfl | rfl | rfl | rfl | rfl
    · exact ⟨F, by omega, fun _ => by kernel_rfl⟩
    · exact ⟨T, by omega, fun _ => by kernel_rfl⟩
    · exact ⟨U, by omega, fun _ => by kernel_rfl⟩
    · exact ⟨C, by omega, fun _ => by kernel_rfl⟩
    · exact ⟨E, by omega, fun _ => by kernel_rfl⟩)
  have HAR := Lib.hid hAR
  clear hL2 hVY hU hC hE hAR hY B0 HNV HBV HBT
  go_upto_region 7 with fail
  have B0 : Below Y.heap.size Y Y.drew := (Below.refl _ Y).drew
  refine held_start (fun W => Below Y.heap.size Y W) (by kernel_rfl) (n := 17) rfl ?_
  obtain ⟨W0, hW0⟩ : ∃ W0, W0 = Y.drew := ⟨_, rfl⟩
  rw [← hW0] at B0 ⊢
  clear hW0
  refine held_free 0 (.string F) rfl (by kernel_rfl) (by kernel_rfl) (by kernel_rfl) (by kernel_rfl) B0 (fun _ _ => by kernel_rfl) ?_
  refine held_free 1 (.string T) rfl (by kernel_rfl) (by kernel_rfl) (by kernel_rfl) (by kernel_rfl) B0 (fun _ _ => by kernel_rfl) ?_
  refine held_free 2 (.slice (some ⟨g, 0, none⟩) T.size cap) rfl (by kernel_rfl) (by kernel_rfl) (by kernel_rfl) (by kernel_rfl) B0 (fun _ _ => by kernel_rfl) ?_
  refine held_free 3 (.string U) rfl (by kernel_rfl) (by kernel_rfl) (by kernel_rfl) (by kernel_rfl) B0 (fun W b => ex_convert_to (v := .slice (some ⟨g, 0, none⟩) T.size cap) 38 9 (.tmp 52) (by kernel_rfl) (by kernel_rfl) (by rw [HU.out]; exact bytes_text W g cap T.size L2 (HBTY.out.below b HBTY.out.1) HSZ2.out.symm)) ?_
  refine held_free 4 (.string T) rfl (by kernel_rfl) (by kernel_rfl) (by kernel_rfl) (by kernel_rfl) B0 (fun _ _ => by kernel_rfl) ?_
  refine held_free 5 (.pointer (some ⟨b1, 0, none⟩)) rfl (by kernel_rfl) (by kernel_rfl) (by kernel_rfl) (by kernel_rfl) B0 (fun _ _ => by kernel_rfl) ?_
  refine held_free 6 (.int .u8 (n0 : Int)) rfl (by kernel_rfl) (by kernel_rfl) (by kernel_rfl) (by kernel_rfl) B0 (fun W b => ex_load 5 (.tmp 55) (by kernel_rfl) ⟨b1, 0, none⟩ (by kernel_rfl) (by kernel_rfl) ((HNY.out.below b HNY.out.lt).cell 0)) ?_
  refine held_free 7 (.int .i64 (n0 : Int)) rfl (by kernel_rfl) (by kernel_rfl) (by kernel_rfl) (by kernel_rfl) B0 (fun W _ => ex_convert_to (v := .int .u8 (n0 : Int)) 5 3 (.tmp 56) (by kernel_rfl) (by kernel_rfl) (conv_u8_int n0 hN0.out W)) ?_
  refine held_free 8 (.string T) rfl (by kernel_rfl) (by kernel_rfl) (by kernel_rfl) (by kernel_rfl) B0 (fun _ _ => by kernel_rfl) ?_
  refine held_free 9 (.int .i64 (T.size : Int)) rfl (by kernel_rfl) (by kernel_rfl) (by kernel_rfl) (by kernel_rfl) B0 (fun _ _ => by kernel_rfl) ?_
  refine held_free 10 (.int .i64 (r : Int)) rfl (by kernel_rfl) (by kernel_rfl) (by kernel_rfl) (by kernel_rfl) B0 (fun W _ => ex_rem 3 3 (.tmp 57) (.tmp 59) (by kernel_rfl) n0 T.size r (by kernel_rfl) (by kernel_rfl) (by kernel_rfl) (by have := H10.out; omega) (by have := H10.out; omega) HRM.out) ?_
  refine held_free 11 (.string C) rfl (by kernel_rfl) (by kernel_rfl) (by kernel_rfl) (by kernel_rfl) B0 (fun W _ => ex_slice_front (v := .string T) (hv := .int .i64 (r : Int)) 9 (.tmp 54) (.tmp 60) (by kernel_rfl) (by kernel_rfl) (by kernel_rfl) (by rw [HC.out]; exact str_front T r (Nat.le_of_lt HRL.out) W)) ?_
  refine held_free 12 (.string T) rfl (by kernel_rfl) (by kernel_rfl) (by kernel_rfl) (by kernel_rfl) B0 (fun _ _ => by kernel_rfl) ?_
  refine held_free 13 (.string F) rfl (by kernel_rfl) (by kernel_rfl) (by kernel_rfl) (by kernel_rfl) B0 (fun _ _ => by kernel_rfl) ?_
  refine held_free 14 (.string E) rfl (by kernel_rfl) (by kernel_rfl) (by kernel_rfl) (by kernel_rfl) B0 (fun _ _ => ex_strcat 9 9 (.tmp 62) (.tmp 63) (by kernel_rfl) (T) (F) E (by kernel_rfl) (by kernel_rfl) (by have := H10.out; omega) (by have := H60.out; omega) HE.out) ?_
  refine held_free 15 (.agg #[.string F, .string T, .string U, .string C, .string E]) rfl (by kernel_rfl) (by kernel_rfl) (by kernel_rfl) (by kernel_rfl) B0 (fun _ _ => by kernel_rfl) ?_
  refine held_free 16 (.int .i64 0) rfl (by kernel_rfl) (by kernel_rfl) (by kernel_rfl) (by kernel_rfl) B0 (fun _ _ => by kernel_rfl) ?_
  refine held_end_at ⟨#[.string F, Value.agg (drv d), Value.agg #[Value.int IntKind.u8 ↑n0, Value.int IntKind.u8 ↑n1], undef, Value.pointer (some { block := b0, off := 0 }), .pointer (some ⟨b1, 0, none⟩), Value.bool false, .string T, Value.int IntKind.i64 0, .slice (some ⟨g, 0, none⟩) T.size cap, undef, undef, undef, undef, undef, undef, undef, undef, undef, undef, Value.string s, Value.string s, Value.int IntKind.i64 ↑s.size, Value.int IntKind.i64 ↑m0, Value.string F, Value.tuple #[Value.string T, Value.int IntKind.i64 0], Value.agg (drv d), Value.agg (adv x), Value.tuple #[Value.string T, Value.int IntKind.i64 0], Value.string T, Value.int IntKind.i64 0, Value.int IntKind.i64 0, Value.bool false, Value.bool false, Value.string T, Value.int IntKind.i64 ↑T.size, Value.bool false, Value.bool false, Value.string T, Value.slice (some { block := g, off := 0 }) T.size cap, .slice (some ⟨g, 0, none⟩) T.size cap, .pointer (some ⟨b1, 0, none⟩), .int .u8 (n0 : Int), .int .i64 (n0 : Int), .slice (some ⟨g, 0, none⟩) T.size cap, .int .i64 (T.size : Int), .int .i64 (r : Int), .pointer (some ⟨b1, 1, none⟩), .int .u8 (n1 : Int), .pointer (some ⟨g, r, none⟩), .string F, .string T, .slice (some ⟨g, 0, none⟩) T.size cap, .string U, .string T, .pointer (some ⟨b1, 0, none⟩), .int .u8 (n0 : Int), .int .i64 (n0 : Int), .string T, .int .i64 (T.size : Int), .int .i64 (r : Int), .string C, .string T, .string F, .string E, .agg #[.string F, .string T, .string U, .string C, .string E], .int .i64 0, undef, undef, undef, undef, undef, undef, undef, undef, undef, undef, undef, undef, undef, undef, undef, undef, undef, undef, undef, undef, undef, undef, undef, undef, undef, undef, undef, undef, undef, undef, undef, undef, undef, undef, undef, undef, undef, undef, undef, undef, undef, undef], []⟩ (by kernel_rfl) (by kernel_rfl) ?_
  obtain ⟨Z7, hZ7⟩ : ∃ Z, Z = W0 := ⟨_, rfl⟩
  have BZ : Below Y.heap.size Y Z7 := by rw [hZ7]; exact B0
  rw [← hZ7]
  clear hZ7 B0
  rw [← HAR.out]
  have HB3 := Lib.hid (HBY.out.trans (BZ.mono HBY.out.size))
  clear BZ HBY HNY HBTY
  go_wp2_with fail
  go_loopw [66] (fun i wr => ∃ j : Nat, j ≤ 5 ∧ i = .int .i64 (j : Int) ∧ Below w.heap.size w wr) (fun i _ => (5 - intOf i).toNat)
  case atStart => exact ⟨0, by omega, rfl, HB3.out⟩
  case round =>
    obtain ⟨j, hj, rfl, hB⟩ := hrel
    have HB4 := Lib.hid hB
    clear hB HB3
    by_cases hlt : j < 5
    · obtain ⟨t, htz, hidx⟩ := HIDX.out j hlt
      have hi := hidx wr
      have j5 : (j : Int) < 5 := by omega
      have HTZ := Lib.hid (show t.size ≤ 9223372036854775807 by omega)
      have HLT := Lib.hid hlt
      obtain ⟨z, e1, hz⟩ : ∃ (z : Ad) (e : Int), decV t = .tuple #[.agg (adv z), .int .i64 e] := ⟨_, _, rfl⟩
      obtain ⟨y, e2, hy⟩ : ∃ (z : ByteArray) (e : Int), decRV t = .tuple #[.agg (rmv z), .int .i64 e] := ⟨_, _, rfl⟩
      have HZ := Lib.hid hz
      have HY := Lib.hid hy
      have HJZ := Lib.hid (ad_equal_b z z true (aeq_self z))
      have HJY := Lib.hid (rm_equal_b y y true (decide_eq_true rfl))
      clear hidx hlt hj htz hz hy
      go_wp2_with fail
      refine (DecodeAdd_any t HTZ.out wr).mono ?_
      rintro e X0 ⟨rfl, b⟩
      rw [HZ.out]
      have HC0 := Lib.hid (HB4.out.trans (b.mono HB4.out.size))
      obtain ⟨p0, hp0⟩ : ∃ g, g = X0.heap.size := ⟨_, rfl⟩
      obtain ⟨Y0, hY0⟩ : ∃ W, W = X0.alloc (.cells (adv z) 23) := ⟨_, rfl⟩
      have P0_0 := Lib.hid (show Blk Y0 p0 23 (adv z) by rw [hY0, hp0]; exact Blk.new _ _ _)
      have HB5 := Lib.hid (show Below w.heap.size w Y0 by rw [hY0]; exact HC0.out.alloc HC0.out.size _)
      have E0 := Lib.hid hY0
      have G0 := Lib.hid hp0
      clear b hY0 hp0 HB4 HC0 
      clear hi
      go_upto_region 11 with fail
      rw [← E0.out, ← G0.out]
      go_wp2_with fail
      refine (DecodeAddR_any t HTZ.out Y0).mono ?_
      rintro e X1 ⟨rfl, b⟩
      rw [HZ.out]
      have P0_0' := Lib.hid (P0_0.out.below b P0_0.out.lt)
      have HC1 := Lib.hid (HB5.out.trans (b.mono HB5.out.size))
      obtain ⟨p1, hp1⟩ : ∃ g, g = X1.heap.size := ⟨_, rfl⟩
      obtain ⟨Y1, hY1⟩ : ∃ W, W = X1.alloc (.cells (adv z) 23) := ⟨_, rfl⟩
      have P0_1 := Lib.hid (show Blk Y1 p0 23 (adv z) by rw [hY1]; exact P0_0'.out.alloc _)
      have P1_1 := Lib.hid (show Blk Y1 p1 23 (adv z) by rw [hY1, hp1]; exact Blk.new _ _ _)
      have HB6 := Lib.hid (show Below w.heap.size w Y1 by rw [hY1]; exact HC1.out.alloc HC1.out.size _)
      have E1 := Lib.hid hY1
      have G1 := Lib.hid hp1
      clear b hY1 hp1 HB5 HC1 P0_0 P0_0'
      go_upto_region 12 with fail
      rw [← E1.out, ← G1.out]
      go_wp2_with fail
      refine (DecodeRemove_any t HTZ.out Y1).mono ?_
      rintro e X2 ⟨rfl, b⟩
      rw [HY.out]
      have P0_1' := Lib.hid (P0_1.out.below b P0_1.out.lt)
      have P1_1' := Lib.hid (P1_1.out.below b P1_1.out.lt)
      have HC2 := Lib.hid (HB6.out.trans (b.mono HB6.out.size))
      obtain ⟨p2, hp2⟩ : ∃ g, g = X2.heap.size := ⟨_, rfl⟩
      obtain ⟨Y2, hY2⟩ : ∃ W, W = X2.alloc (.cells (rmv y) 29) := ⟨_, rfl⟩
      have P0_2 := Lib.hid (show Blk Y2 p0 23 (adv z) by rw [hY2]; exact P0_1'.out.alloc _)
      have P1_2 := Lib.hid (show Blk Y2 p1 23 (adv z) by rw [hY2]; exact P1_1'.out.alloc _)
      have P2_2 := Lib.hid (show Blk Y2 p2 29 (rmv y) by rw [hY2, hp2]; exact Blk.new _ _ _)
      have HB7 := Lib.hid (show Below w.heap.size w Y2 by rw [hY2]; exact HC2.out.alloc HC2.out.size _)
      have E2 := Lib.hid hY2
      have G2 := Lib.hid hp2
      clear b hY2 hp2 HB6 HC2 P0_1 P0_1' P1_1 P1_1'
      go_upto_region 13 with fail
      rw [← E2.out, ← G2.out]
      go_wp2_with fail
      refine (DecodeRemoveR_any t HTZ.out Y2).mono ?_
      rintro e X3 ⟨rfl, b⟩
      rw [HY.out]
      have P0_2' := Lib.hid (P0_2.out.below b P0_2.out.lt)
      have P1_2' := Lib.hid (P1_2.out.below b P1_2.out.lt)
      have P2_2' := Lib.hid (P2_2.out.below b P2_2.out.lt)
      have HC3 := Lib.hid (HB7.out.trans (b.mono HB7.out.size))
      obtain ⟨p3, hp3⟩ : ∃ g, g = X3.heap.size := ⟨_, rfl⟩
      obtain ⟨Y3, hY3⟩ : ∃ W, W = X3.alloc (.cells (rmv y) 29) := ⟨_, rfl⟩
      have P0_3 := Lib.hid (show Blk Y3 p0 23 (adv z) by rw [hY3]; exact P0_2'.out.alloc _)
      have P1_3 := Lib.hid (show Blk Y3 p1 23 (adv z) by rw [hY3]; exact P1_2'.out.alloc _)
      have P2_3 := Lib.hid (show Blk Y3 p2 29 (rmv y) by rw [hY3]; exact P2_2'.out.alloc _)
      have P3_3 := Lib.hid (show Blk Y3 p3 29 (rmv y) by rw [hY3, hp3]; exact Blk.new _ _ _)
      have HB8 := Lib.hid (show Below w.heap.size w Y3 by rw [hY3]; exact HC3.out.alloc HC3.out.size _)
      have E3 := Lib.hid hY3
      have G3 := Lib.hid hp3
      clear b hY3 hp3 HB7 HC3 P0_2 P0_2' P1_2 P1_2' P2_2 P2_2'
      go_upto_region 14 with fail
      rw [← E3.out, ← G3.out]
      go_wp2_with (first
        | (refine wpList_load_row_w (by rfl) 23 _ rfl p0 rfl 23 (adv z) (0, 0) _ ?_ Try.underlying23 rfl ad_size ?_; exact P0_3.out)
        | (refine wpList_load_row_w (by rfl) 23 _ rfl p1 rfl 23 (adv z) (0, 0) _ ?_ Try.underlying23 rfl ad_size ?_; exact P1_3.out)
        | (refine wpList_load_row_w (by rfl) 29 _ rfl p2 rfl 29 (rmv y) (0, 0) _ ?_ Try.underlying29 rfl rm_size ?_; exact P2_3.out)
        | (refine wpList_load_row_w (by rfl) 29 _ rfl p3 rfl 29 (rmv y) (0, 0) _ ?_ Try.underlying29 rfl rm_size ?_; exact P3_3.out)
        | (refine wpList_agg_ne (by rfl) 23 23 _ _ rfl (adv z) (adv z) rfl rfl (by kernel_rfl) true ?_ ?_; exact HJZ.out _)
        | (refine wpList_agg_ne (by rfl) 29 29 _ _ rfl (rmv y) (rmv y) rfl rfl (by kernel_rfl) true ?_ ?_; exact HJY.out _))
      go_roundw
      case rel => exact ⟨j + 1, by have := HLT.out; omega, by go_num, HB8.out⟩
      case measure => simp [intOf]; omega
    · obtain rfl : j = 5 := by omega
      clear hlt hj
      go_wp2_with fail
      refine (works_t wr).mono ?_
      rintro e W5 ⟨rfl, b⟩
      have HB5 := Lib.hid (HB4.out.trans (b.mono HB4.out.size))
      clear b
      go_wp2_with fail
      go_ret
      exact ⟨rfl, HB5.out⟩

theorem own : ownKnob Try.prog.godebug = none := by kernel_rfl
theorem laidOut : laidOutB Try.prog = true := by kernel_rfl

set_option maxRecDepth 100000 in
theorem lifted (os : Os) (started : os.Started) (H : Type) (enc : TypeId × Value → H) :
    ReturnsInHanded {} Try.checked os 4 .any (Rows.addrReadsSpec.pre6 enc Try.prog Try.f4 Rows.addrReadsRow.domain false) (Rows.addrReadsSpec.post enc Try.prog Try.f4 false true false false) := by
  refine returnsInHanded_of_change_sized (C := Try.checked) own started (by kernel_rfl) Try.func4
    (ChangeSpec.witness6 (enc := enc) (C := Try.checked) false ⟨#[], #[.string ByteArray.empty, .agg #[.bool false, .bool false, .bool false, .int .u8 0, .int .u16 0, .int .u8 0, .int .u8 0, .int .u8 0, .int .u8 0, .int .u8 0, .int .u8 0, .int .u8 0, .int .u8 0, .int .u8 0, .int .u8 0, .int .u8 0, .int .u8 0, .int .u8 0, .int .u8 0, .int .u8 0, .int .u8 0, .int .u8 0, .int .u8 0, .int .u8 0, .int .u8 0, .int .u8 0, .int .u8 0, .int .u8 0, .int .u8 0], .agg #[.int .u8 0, .int .u8 0]], []⟩ 8 (by kernel_rfl) (by kernel_rfl) (by kernel_rfl) (by kernel_rfl)) ?_
  intro W base args ds gs before hval0 hW hcnd hsz0 _
  have hsz : (DataW.weightsEach Try.prog (Try.f4.params.toList ++ Rows.addrReadsSpec.plain.varTypes Try.prog) (ds ++ gs)).all (· ≤ reachBytes) = true := hsz0
  have hval : ∀ (j : Nat) t v, Try.f4.params[j]? = some t → args[j]? = some v → Value.okWide Try.prog W .any base t v := hval0
  have hW' := hW
  obtain ⟨p, q, hA0, hV, rfl, hfz, hnd⟩ := hW
  have hA : DataW.TrodAll enc Try.prog W 0 (fun _ => true) true Try.f4.params.toList args.toList ds p := hA0
  rw [Try.params4] at hA hval hsz
  obtain ⟨v0, vs0, d0, ds0, p0, q0, hargs, rfl, rfl, h0, r0⟩ := trodAll_cons hA
  obtain ⟨v1, vs1, d1, ds1, p1, q1, rfl, rfl, rfl, h1, r1⟩ := trodAll_cons r0
  obtain ⟨v2, vs2, d2, ds2, p2, q2, rfl, rfl, rfl, h2, r2⟩ := trodAll_cons r1
  obtain ⟨rfl, rfl, rfl⟩ := trodAll_nil r2
  obtain rfl : args = #[v0, v1, v2] := by cases args; simp_all
  obtain ⟨rfl, rfl⟩ := trodVars_none hV
  obtain ⟨a0, rfl, rfl, rfl, w0⟩ := open_string Try.underlying9 (hval 0 9 v0 rfl rfl) h0
  have k1 := h1
  have lt1 : ∀ x ∈ p1, x.block < W.heap.size := by obtain ⟨m, hm⟩ := k1; exact DataW.trod_lt m _ _ _ hm
  obtain ⟨d, rfl, hd⟩ := open_draft (hval 1 35 v1 rfl rfl) h1
  have k2 := h2
  have lt2 : ∀ x ∈ p2, x.block < W.heap.size := by obtain ⟨m, hm⟩ := k2; exact DataW.trod_lt m _ _ _ hm
  obtain ⟨n0, n1, hn0, hn1, rfl⟩ := open_two (hval 2 36 v2 rfl rfl) h2
  have z0 : a0.size ≤ 140737488351232 := by have := sized_string hsz (j := 0) (t := 9) rfl rfl; simpa [reachBytes] using this
  clear hA0 hval0
  simp only [List.append_nil] at hW'
  refine (walk a0 z0 d hd n0 n1 hn0 hn1 W).mono fun e W' ⟨he, bel⟩ => ?_
  subst he
  exact ⟨_, rfl, _, _, _, [], _, [], hW', trodAll_mk1 (shut_bool Try.underlying4 _), (trodAll_cons_mk (shut_string Try.underlying9 w0) (trodAll_cons_mk (Below.trod laidOut (by kernel_rfl) (of_decide_eq_true (by kernel_rfl)) k1 bel lt1) (trodAll_cons_mk (Below.trod laidOut (by kernel_rfl) (of_decide_eq_true (by kernel_rfl)) k2 bel lt2) trodAll_mk0))), rfl, bel.frame _, fun h => by cases h⟩

theorem over : Rows.addrReadsRow.holds Try.pinned (OpenSpec.ofChange Rows.addrReadsSpec) :=
  OpenClaim.holds_of_wide 4 Try.f4 rfl rfl rfl rfl rfl rfl rfl ⟨rfl, rfl, rfl, rfl, rfl⟩ rfl rfl rfl rfl rfl (by kernel_rfl) Try.func4 (by kernel_rfl)
    (of_decide_eq_true (by kernel_rfl)) (by unfold Func.isWrapper; first | (rw [if_pos (by decide +kernel)]; kernel_rfl) | (rw [if_neg (by decide +kernel)]; exact ⟨rfl, rfl⟩))
    (fun os started H enc _ => lifted os started H enc)

theorem proved : Rows.AddrReadsSaid := over
#print axioms proved
end Go.Proofs.Ytcofdiamlmlhfaa.addrReads
