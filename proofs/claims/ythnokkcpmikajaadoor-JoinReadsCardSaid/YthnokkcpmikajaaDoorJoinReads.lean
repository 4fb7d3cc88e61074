/-
  What any text is read as, and a draft's body, with one byte otherwise, cut, or with more behind it, is as the document says (statement JoinReads, promise P10.2), of all texts, drafts, places and bytes, without condition but the table's own initial values, which the card ties to the program's text.
-/
import Derived.Test.YthnokkcpmikajaaDoorJoinBytes
import Derived.Test.YthnokkcpmikajaaDoorJoinRefD
namespace Go.Proofs.YthnokkcpmikajaaDoor.joinReads
open Go.ChangeShapes Go.WideShapes Go.ChangeAt Go.RowKit
set_option linter.unusedVariables false

set_option maxHeartbeats 4000000 in
set_option maxRecDepth 100000 in
theorem walk (s : ByteArray) (hsz : s.size ≤ 140737488351232) (d : Dr) (hd : d.Ok) (n0 n1 : Nat) (hn0 : n0 ≤ 255) (hn1 : n1 ≤ 255) (w : World) (ht : Tbl w) :
    Calls Tryd.prog 4 #[.string s, .agg (drv d), .agg #[.int .u8 (n0 : Int), .int .u8 (n1 : Int)]] w fun e w' => e = .returned (.bool true) ∧ Below w.heap.size w w' := by
  obtain ⟨m0, F, hF, nF, mF, lF, uF⟩ := front_40 s
  have hF40 : F.size ≤ 40 := by omega
  obtain ⟨x, hx⟩ : ∃ x, x = d.jn := ⟨_, rfl⟩
  have HXO := Lib.hid (show x.Ok by rw [hx]; exact d.jn_ok hd)
  have HXM := Lib.hid (show x.May by rw [hx]; exact d.jn_may hd)
  have HCX := Lib.hid (show ∀ W, Calls Tryd.prog 13 #[.agg (drv d)] W fun e w' => e = .returned (.agg (jnv x)) ∧ Below W.heap.size W w' from fun W => by rw [hx]; exact Draft_any d hd W)
  obtain ⟨T, hT⟩ : ∃ T, T = txt x.body := ⟨_, rfl⟩
  have HET := Lib.hid (show encV x = .tuple #[.string T, .int .i64 0] by rw [encV_t x HXM.out, hT])
  have hTz : T.size = Jn.bodySize x.form := by rw [hT, txt_size, x.body_size HXM.out]
  have hT10 : 10 ≤ T.size ∧ T.size ≤ 22 := by rw [hTz]; rcases Jn.size_cases _ (x.forms HXM.out) with ⟨_, h⟩ | ⟨_, h⟩ | ⟨_, h⟩ <;> omega
  clear hTz
  obtain ⟨b0, hb0⟩ : ∃ b0, b0 = w.heap.size := ⟨_, rfl⟩
  obtain ⟨b1, hb1⟩ : ∃ b1, b1 = w.heap.size + 1 := ⟨_, rfl⟩
  obtain ⟨w0, hw0⟩ : ∃ V, V = (w.alloc (.cells (drv d) 33)).alloc (.cells #[.int .u8 (n0 : Int), .int .u8 (n1 : Int)] 34) := ⟨_, rfl⟩
  have HD0 := Lib.hid (show Blk w0 b0 33 (drv d) by rw [hw0, hb0]; exact (Blk.new _ _ _).alloc _)
  have HN0 := Lib.hid (show Blk w0 b1 34 #[.int .u8 (n0 : Int), .int .u8 (n1 : Int)] by
    rw [hw0, hb1]
    have := Blk.new (w.alloc (.cells (drv d) 33)) 34 #[.int .u8 (n0 : Int), .int .u8 (n1 : Int)]
    simpa using this)
  have hb : Below w.heap.size w w0 := by rw [hw0]; exact ((Below.refl _ w).alloc (Nat.le_refl _) _).alloc (by simp) _
  have HB0 := Lib.hid hb
  have HT0 := Lib.hid (ht.below hb)
  have HDI := Lib.hid (drv_info d hd.m)
  have HW0 := Lib.hid hw0
  have HE0 := Lib.hid hb0
  have HE1 := Lib.hid hb1
  have HTT := Lib.hid hT
  have H10 := Lib.hid hT10
  have HF := Lib.hid hF
  have eF := hF.symm
  have H40 := Lib.hid hF40
  have hN0 := Lib.hid hn0
  have hN1 := Lib.hid hn1
  clear hF nF uF hx hb hw0 hb0 hb1 ht hT hd hF40 hn0 hn1
  go_enter Tryd.func4, Tryd.ntmps4
  go_upto_region 2 with fail
  rw [← HW0.out, ← HE1.out, ← HE0.out]
  clear mF lF eF HW0
  go_wp2_with (refine wpList_load_row_w (by rfl) 33 _ rfl b0 rfl 33 (drv d) (0, 0) _ ?_ Tryd.underlying33 rfl HDI.out ?_; exact HD0.out)
  refine (HCX.out w0).mono ?_
  rintro e W1 ⟨rfl, b⟩
  have HN1 := Lib.hid (HN0.out.below b HN0.out.lt)
  have HB1 := Lib.hid (HB0.out.trans (b.mono (by have := HB0.out.size; omega)))
  have HT1 := Lib.hid (HT0.out.below b)
  clear b HN0 HB0 HT0 HD0
  go_wp2_with fail
  refine (EncodeR_any x HXO.out W1).mono ?_
  rintro e W2 ⟨rfl, b⟩
  rw [HET.out]
  have HN2 := Lib.hid (HN1.out.below b HN1.out.lt)
  have HB2 := Lib.hid (HB1.out.trans (b.mono HB1.out.size))
  have HT2 := Lib.hid (HT1.out.below b)
  have e0 : ((T.size : Int) == 0) = false := by rw [beq_eq_false_iff_ne]; omega
  clear b HN1 HB1 HT1
  go_upto_region 5 with fail
  obtain ⟨g, hg⟩ : ∃ g, g = W2.heap.size := ⟨_, rfl⟩
  obtain ⟨cap, V, hcv, hbt, hbl, hvs⟩ := text_bytes W2 T
  have HG := Lib.hid hg
  have HNV := Lib.hid (HN2.out.below hbl HN2.out.lt)
  have HBV := Lib.hid (HB2.out.trans (hbl.mono HB2.out.size))
  have HTV := Lib.hid (HT2.out.below hbl)
  rw [← hg] at hbt hvs
  have HBT := Lib.hid hbt
  have HVS := Lib.hid (show g < V.heap.size ∧ w.heap.size ≤ g ∧ b1 < g from ⟨by omega, by rw [hg]; exact HB2.out.size, by rw [hg]; exact HN2.out.lt⟩)
  clear hbt hbl hvs hg HN2 HB2 HT2
  go_upto_region 6 with fail
  rw [← HG.out]
  clear hcv e0
  obtain ⟨r, hr⟩ : ∃ r, n0 % T.size = r := ⟨_, rfl⟩
  have hrl : r < T.size := by rw [← hr]; exact Nat.mod_lt _ (by have := H10.out; omega)
  have HRM := Lib.hid hr
  have HRL := Lib.hid hrl
  obtain ⟨l, hl⟩ : ∃ l, l = T.data.toList := ⟨_, rfl⟩
  have hll : l.length = T.size := by rw [hl]; exact len_data T
  rw [← hl] at HBT
  have HLL := Lib.hid hll
  obtain ⟨v, hv⟩ : ∃ v : UInt8, v.toNat = n1 := ⟨UInt8.ofNat n1, by have := hN1.out; rw [UInt8.toNat_ofNat']; omega⟩
  have HV := Lib.hid hv
  clear hr hrl hl hll hv
  have B0 : Below V.heap.size V V.drew := (Below.refl _ V).drew
  refine walk_start 10 (fun W => Below V.heap.size V W) (by kernel_rfl) (n := 11) rfl ?_
  obtain ⟨W0, hW0⟩ : ∃ W0, W0 = V.drew := ⟨_, rfl⟩
  rw [← hW0] at B0 ⊢
  clear hW0
  refine walk_free 0 (.slice (some ⟨g, 0, none⟩) T.size cap) rfl (by kernel_rfl) (by kernel_rfl) (by kernel_rfl) (by kernel_rfl) (by kernel_rfl) (by kernel_rfl) B0 (fun _ _ => by kernel_rfl) ?_
  refine walk_free 1 (.pointer (some ⟨b1, 0, none⟩)) rfl (by kernel_rfl) (by kernel_rfl) (by kernel_rfl) (by kernel_rfl) (by kernel_rfl) (by kernel_rfl) B0 (fun _ _ => by kernel_rfl) ?_
  refine walk_free 2 (.int .u8 (n0 : Int)) rfl (by kernel_rfl) (by kernel_rfl) (by kernel_rfl) (by kernel_rfl) (by kernel_rfl) (by kernel_rfl) B0 (fun W b => ex_load 5 (.tmp 37) (by kernel_rfl) ⟨b1, 0, none⟩ (by kernel_rfl) (by kernel_rfl) ((HNV.out.below b HNV.out.lt).cell 0)) ?_
  refine walk_free 3 (.int .i64 (n0 : Int)) rfl (by kernel_rfl) (by kernel_rfl) (by kernel_rfl) (by kernel_rfl) (by kernel_rfl) (by kernel_rfl) B0 (fun W _ => ex_convert_to (v := .int .u8 (n0 : Int)) 5 3 (.tmp 38) (by kernel_rfl) (by kernel_rfl) (conv_u8_int n0 hN0.out W)) ?_
  refine walk_free 4 (.slice (some ⟨g, 0, none⟩) T.size cap) rfl (by kernel_rfl) (by kernel_rfl) (by kernel_rfl) (by kernel_rfl) (by kernel_rfl) (by kernel_rfl) B0 (fun _ _ => by kernel_rfl) ?_
  refine walk_free 5 (.int .i64 (T.size : Int)) rfl (by kernel_rfl) (by kernel_rfl) (by kernel_rfl) (by kernel_rfl) (by kernel_rfl) (by kernel_rfl) B0 (fun _ _ => by kernel_rfl) ?_
  refine walk_free 6 (.int .i64 (r : Int)) rfl (by kernel_rfl) (by kernel_rfl) (by kernel_rfl) (by kernel_rfl) (by kernel_rfl) (by kernel_rfl) B0 (fun W _ => ex_rem 3 3 (.tmp 39) (.tmp 41) (by kernel_rfl) n0 T.size r (by kernel_rfl) (by kernel_rfl) (by kernel_rfl) (by have := H10.out; omega) (by have := H10.out; omega) HRM.out) ?_
  refine walk_free 7 (.pointer (some ⟨b1, 1, none⟩)) rfl (by kernel_rfl) (by kernel_rfl) (by kernel_rfl) (by kernel_rfl) (by kernel_rfl) (by kernel_rfl) B0 (fun _ _ => by kernel_rfl) ?_
  refine walk_free 8 (.int .u8 (n1 : Int)) rfl (by kernel_rfl) (by kernel_rfl) (by kernel_rfl) (by kernel_rfl) (by kernel_rfl) (by kernel_rfl) B0 (fun W b => ex_load 5 (.tmp 43) (by kernel_rfl) ⟨b1, 1, none⟩ (by kernel_rfl) (by kernel_rfl) ((HNV.out.below b HNV.out.lt).cell 1)) ?_
  refine walk_free 9 (.pointer (some ⟨g, r, none⟩)) rfl (by kernel_rfl) (by kernel_rfl) (by kernel_rfl) (by kernel_rfl) (by kernel_rfl) (by kernel_rfl) B0 (fun W _ => ex_index (t := 36) (x := .tmp 36) (y := .tmp 42) (n := .slice (some ⟨g, 0, none⟩) T.size cap) (i := .int .i64 (r : Int)) (by kernel_rfl) (by kernel_rfl) (by kernel_rfl) (place_at g r T.size cap HRL.out (by have := H10.out; omega) W)) ?_
  refine walk_one 10 (by kernel_rfl) (do_last 10 rfl (by kernel_rfl) (ex_store_cell 5 (.tmp 45) (.tmp 44) (by kernel_rfl) ⟨g, r, none⟩ (.int .u8 (n1 : Int)) (by kernel_rfl) (by kernel_rfl) (store_byte _ g r _ _ ((HBT.out.below B0 HVS.out.1).cell r (by rw [HLL.out]; exact HRL.out)) ((HBT.out.below B0 HVS.out.1).frozen r (by rw [HLL.out]; exact HRL.out)))) (by kernel_rfl) ?_)
  refine walk_end_at ⟨#[Value.string F, Value.agg (drv d), Value.agg #[Value.int IntKind.u8 ↑n0, Value.int IntKind.u8 ↑n1], undef, Value.pointer (some { block := b0, off := 0 }), .pointer (some ⟨b1, 0, none⟩), Value.bool false, Value.string T, Value.int IntKind.i64 0, .slice (some ⟨g, 0, none⟩) T.size cap, undef, undef, undef, undef, undef, undef, Value.string s, Value.string s, Value.int IntKind.i64 ↑s.size, Value.int IntKind.i64 ↑m0, Value.string F, Value.tuple #[Value.string T, Value.int IntKind.i64 0], Value.agg (drv d), Value.agg (jnv x), Value.tuple #[Value.string T, Value.int IntKind.i64 0], Value.string T, Value.int IntKind.i64 0, Value.int IntKind.i64 0, Value.bool false, Value.bool false, Value.string T, Value.int IntKind.i64 ↑T.size, Value.bool false, Value.bool false, Value.string T, Value.slice (some { block := g, off := 0 }) T.size cap, .slice (some ⟨g, 0, none⟩) T.size cap, .pointer (some ⟨b1, 0, none⟩), .int .u8 (n0 : Int), .int .i64 (n0 : Int), .slice (some ⟨g, 0, none⟩) T.size cap, .int .i64 (T.size : Int), .int .i64 (r : Int), .pointer (some ⟨b1, 1, none⟩), .int .u8 (n1 : Int), .pointer (some ⟨g, r, none⟩), undef, undef, undef, undef, undef, undef, undef, undef, undef, undef, undef, undef, undef, undef, undef, undef, undef, undef, undef, undef, undef, undef, undef, undef, undef, undef, undef, undef, undef, undef, undef, undef, undef, undef, undef, undef, undef, undef, undef], []⟩ (by kernel_rfl) (by kernel_rfl) ?_
  obtain ⟨Y, hY⟩ : ∃ Y, Y = W0.setCell ⟨g, r, none⟩ (.int .u8 (n1 : Int)) := ⟨_, rfl⟩
  rw [← hY]
  obtain ⟨L2, hL2⟩ : ∃ L2, L2 = l.set r v := ⟨_, rfl⟩
  have HSZ2 := Lib.hid (show L2.length = T.size by rw [hL2, List.length_set]; exact HLL.out)
  have HBTY := Lib.hid (show Bts Y g L2 by rw [hY, hL2, ← HV.out]; exact (HBT.out.below B0 HVS.out.1).set_ r v (by rw [HLL.out]; exact HRL.out))
  have hVY : Below g V Y := by rw [hY]; exact (B0.mono (Nat.le_of_lt HVS.out.1)).setCell (p := ⟨g, r, none⟩) (Nat.le_refl g) _
  have HNY := Lib.hid (show Blk Y b1 34 #[.int .u8 (n0 : Int), .int .u8 (n1 : Int)] from HNV.out.below hVY HVS.out.2.2)
  have HTY := Lib.hid (HTV.out.under hVY (by have := HVS.out.2.2; omega))
  have HBY := Lib.hid (show Below w.heap.size w Y by have q := HBV.out.trans (hVY.mono HVS.out.2.1); first | exact q | (rw [HE0.out]; exact q))
  obtain ⟨U, hU⟩ : ∃ U, U = txt L2 := ⟨_, rfl⟩
  obtain ⟨C, hC⟩ : ∃ C, C = T.extract 0 r := ⟨_, rfl⟩
  obtain ⟨E, hE⟩ : ∃ E, E = T ++ F := ⟨_, rfl⟩
  have HU := Lib.hid hU
  have HC := Lib.hid hC
  have HE := Lib.hid hE
  obtain ⟨AR, hAR⟩ : ∃ A : Array Value, A = #[.string F, .string T, .string U, .string C, .string E] := ⟨_, rfl⟩
  have HIDX := Lib.hid (show ∀ j < 5, ∃ t : ByteArray, t.size ≤ 200 ∧ ∀ W, (Instr.index 37 (.agg AR) (.int .i64 ((j : Nat) : Int))).run Tryd.prog W = .ok (.string t) W by
    intro j hj
    have z1 := H10.out
    have z2 := H40.out
    have z3 : U.size ≤ 22 := by rw [hU, txt_size, HSZ2.out]; exact z1.2
    have z4 : C.size ≤ 22 := by rw [hC, ByteArray.size_extract]; omega
    have z5 : E.size ≤ 62 := by rw [hE, ByteArray.size_append]; omega
    have hj5 : j = 0 ∨ j = 1 ∨ j = 2 ∨ j = 3 ∨ j = 4 := by omega
    subst hAR
    rcases hj5 with rfl | rfl | rfl | rfl | rfl
    · exact ⟨F, by omega, fun _ => by kernel_rfl⟩
    · exact ⟨T, by omega, fun _ => by kernel_rfl⟩
    · exact ⟨U, by omega, fun _ => by kernel_rfl⟩
    · exact ⟨C, by omega, fun _ => by kernel_rfl⟩
    · exact ⟨E, by omega, fun _ => by kernel_rfl⟩)
  have HAR := Lib.hid hAR
  clear hL2 hVY hU hC hE hAR hY B0 HNV HTV HBV HBT
  go_upto_region 7 with fail
  have B0 : Below Y.heap.size Y Y.drew := (Below.refl _ Y).drew
  refine held_start (fun W => Below Y.heap.size Y W) (by kernel_rfl) (n := 17) rfl ?_
  obtain ⟨W0, hW0⟩ : ∃ W0, W0 = Y.drew := ⟨_, rfl⟩
  rw [← hW0] at B0 ⊢
  clear hW0
  refine held_free 0 (.string F) rfl (by kernel_rfl) (by kernel_rfl) (by kernel_rfl) (by kernel_rfl) B0 (fun _ _ => by kernel_rfl) ?_
  refine held_free 1 (.string T) rfl (by kernel_rfl) (by kernel_rfl) (by kernel_rfl) (by kernel_rfl) B0 (fun _ _ => by kernel_rfl) ?_
  refine held_free 2 (.slice (some ⟨g, 0, none⟩) T.size cap) rfl (by kernel_rfl) (by kernel_rfl) (by kernel_rfl) (by kernel_rfl) B0 (fun _ _ => by kernel_rfl) ?_
  refine held_free 3 (.string U) rfl (by kernel_rfl) (by kernel_rfl) (by kernel_rfl) (by kernel_rfl) B0 (fun W b => ex_convert_to (v := .slice (some ⟨g, 0, none⟩) T.size cap) 36 9 (.tmp 48) (by kernel_rfl) (by kernel_rfl) (by rw [HU.out]; exact bytes_text W g cap T.size L2 (HBTY.out.below b HBTY.out.1) HSZ2.out.symm)) ?_
  refine held_free 4 (.string T) rfl (by kernel_rfl) (by kernel_rfl) (by kernel_rfl) (by kernel_rfl) B0 (fun _ _ => by kernel_rfl) ?_
  refine held_free 5 (.pointer (some ⟨b1, 0, none⟩)) rfl (by kernel_rfl) (by kernel_rfl) (by kernel_rfl) (by kernel_rfl) B0 (fun _ _ => by kernel_rfl) ?_
  refine held_free 6 (.int .u8 (n0 : Int)) rfl (by kernel_rfl) (by kernel_rfl) (by kernel_rfl) (by kernel_rfl) B0 (fun W b => ex_load 5 (.tmp 51) (by kernel_rfl) ⟨b1, 0, none⟩ (by kernel_rfl) (by kernel_rfl) ((HNY.out.below b HNY.out.lt).cell 0)) ?_
  refine held_free 7 (.int .i64 (n0 : Int)) rfl (by kernel_rfl) (by kernel_rfl) (by kernel_rfl) (by kernel_rfl) B0 (fun W _ => ex_convert_to (v := .int .u8 (n0 : Int)) 5 3 (.tmp 52) (by kernel_rfl) (by kernel_rfl) (conv_u8_int n0 hN0.out W)) ?_
  refine held_free 8 (.string T) rfl (by kernel_rfl) (by kernel_rfl) (by kernel_rfl) (by kernel_rfl) B0 (fun _ _ => by kernel_rfl) ?_
  refine held_free 9 (.int .i64 (T.size : Int)) rfl (by kernel_rfl) (by kernel_rfl) (by kernel_rfl) (by kernel_rfl) B0 (fun _ _ => by kernel_rfl) ?_
  refine held_free 10 (.int .i64 (r : Int)) rfl (by kernel_rfl) (by kernel_rfl) (by kernel_rfl) (by kernel_rfl) B0 (fun W _ => ex_rem 3 3 (.tmp 53) (.tmp 55) (by kernel_rfl) n0 T.size r (by kernel_rfl) (by kernel_rfl) (by kernel_rfl) (by have := H10.out; omega) (by have := H10.out; omega) HRM.out) ?_
  refine held_free 11 (.string C) rfl (by kernel_rfl) (by kernel_rfl) (by kernel_rfl) (by kernel_rfl) B0 (fun W _ => ex_slice_front (v := .string T) (hv := .int .i64 (r : Int)) 9 (.tmp 50) (.tmp 56) (by kernel_rfl) (by kernel_rfl) (by kernel_rfl) (by rw [HC.out]; exact str_front T r (Nat.le_of_lt HRL.out) W)) ?_
  refine held_free 12 (.string T) rfl (by kernel_rfl) (by kernel_rfl) (by kernel_rfl) (by kernel_rfl) B0 (fun _ _ => by kernel_rfl) ?_
  refine held_free 13 (.string F) rfl (by kernel_rfl) (by kernel_rfl) (by kernel_rfl) (by kernel_rfl) B0 (fun _ _ => by kernel_rfl) ?_
  refine held_free 14 (.string E) rfl (by kernel_rfl) (by kernel_rfl) (by kernel_rfl) (by kernel_rfl) B0 (fun _ _ => ex_strcat 9 9 (.tmp 58) (.tmp 59) (by kernel_rfl) (T) (F) E (by kernel_rfl) (by kernel_rfl) (by have := H10.out; omega) (by have := H40.out; omega) HE.out) ?_
  refine held_free 15 (.agg #[.string F, .string T, .string U, .string C, .string E]) rfl (by kernel_rfl) (by kernel_rfl) (by kernel_rfl) (by kernel_rfl) B0 (fun _ _ => by kernel_rfl) ?_
  refine held_free 16 (.int .i64 0) rfl (by kernel_rfl) (by kernel_rfl) (by kernel_rfl) (by kernel_rfl) B0 (fun _ _ => by kernel_rfl) ?_
  refine held_end_at ⟨#[.string F, Value.agg (drv d), Value.agg #[Value.int IntKind.u8 ↑n0, Value.int IntKind.u8 ↑n1], undef, Value.pointer (some { block := b0, off := 0 }), .pointer (some ⟨b1, 0, none⟩), Value.bool false, .string T, Value.int IntKind.i64 0, .slice (some ⟨g, 0, none⟩) T.size cap, undef, undef, undef, undef, undef, undef, Value.string s, Value.string s, Value.int IntKind.i64 ↑s.size, Value.int IntKind.i64 ↑m0, Value.string F, Value.tuple #[Value.string T, Value.int IntKind.i64 0], Value.agg (drv d), Value.agg (jnv x), Value.tuple #[Value.string T, Value.int IntKind.i64 0], Value.string T, Value.int IntKind.i64 0, Value.int IntKind.i64 0, Value.bool false, Value.bool false, Value.string T, Value.int IntKind.i64 ↑T.size, Value.bool false, Value.bool false, Value.string T, Value.slice (some { block := g, off := 0 }) T.size cap, .slice (some ⟨g, 0, none⟩) T.size cap, .pointer (some ⟨b1, 0, none⟩), .int .u8 (n0 : Int), .int .i64 (n0 : Int), .slice (some ⟨g, 0, none⟩) T.size cap, .int .i64 (T.size : Int), .int .i64 (r : Int), .pointer (some ⟨b1, 1, none⟩), .int .u8 (n1 : Int), .pointer (some ⟨g, r, none⟩), .string F, .string T, .slice (some ⟨g, 0, none⟩) T.size cap, .string U, .string T, .pointer (some ⟨b1, 0, none⟩), .int .u8 (n0 : Int), .int .i64 (n0 : Int), .string T, .int .i64 (T.size : Int), .int .i64 (r : Int), .string C, .string T, .string F, .string E, .agg #[.string F, .string T, .string U, .string C, .string E], .int .i64 0, undef, undef, undef, undef, undef, undef, undef, undef, undef, undef, undef, undef, undef, undef, undef, undef, undef, undef, undef, undef, undef, undef], []⟩ (by kernel_rfl) (by kernel_rfl) ?_
  obtain ⟨Z7, hZ7⟩ : ∃ Z, Z = W0 := ⟨_, rfl⟩
  have BZ : Below Y.heap.size Y Z7 := by rw [hZ7]; exact B0
  rw [← hZ7]
  clear hZ7 B0
  rw [← HAR.out]
  have HT3 := Lib.hid (HTY.out.below BZ)
  have HB3 := Lib.hid (HBY.out.trans (BZ.mono HBY.out.size))
  clear BZ HTY HBY HNY HBTY
  go_wp2_with fail
  go_loopw [62] (fun i wr => ∃ j : Nat, j ≤ 5 ∧ i = .int .i64 (j : Int) ∧ Tbl wr ∧ Below w.heap.size w wr) (fun i _ => (5 - intOf i).toNat)
  case atStart => exact ⟨0, by omega, rfl, HT3.out, HB3.out⟩
  case round =>
    obtain ⟨j, hj, rfl, hT, hB⟩ := hrel
    have HT4 := Lib.hid hT
    have HB4 := Lib.hid hB
    clear hT hB HT3 HB3
    by_cases hlt : j < 5
    · obtain ⟨t, htz, hidx⟩ := HIDX.out j hlt
      have hi := hidx wr
      have j5 : (j : Int) < 5 := by omega
      have HTZ := Lib.hid htz
      have HLT := Lib.hid hlt
      obtain ⟨z, e1, hz⟩ : ∃ (z : Jn) (e : Int), decV t = .tuple #[.agg (jnv z), .int .i64 e] := ⟨_, _, rfl⟩
      have HZ := Lib.hid hz
      have HJZ := Lib.hid (jn_equal_b z z true (jeq_self z))
      clear hidx hlt hj htz hz
      go_wp2_with fail
      refine (Decode_any t (by have := HTZ.out; omega) wr HT4.out).mono ?_
      rintro e W5 ⟨rfl, b⟩
      rw [HZ.out]
      have HT5 := Lib.hid (HT4.out.below b)
      have HB5 := Lib.hid (HB4.out.trans (b.mono HB4.out.size))
      obtain ⟨p, hp⟩ : ∃ p, p = W5.heap.size := ⟨_, rfl⟩
      obtain ⟨W6, hW6⟩ : ∃ W6, W6 = W5.alloc (.cells (jnv z) 24) := ⟨_, rfl⟩
      have HP6 := Lib.hid (show Blk W6 p 24 (jnv z) by rw [hW6, hp]; exact Blk.new _ _ _)
      have HT6 := Lib.hid (show Tbl W6 by rw [hW6]; exact HT5.out.alloc _)
      have HB6 := Lib.hid (show Below w.heap.size w W6 by rw [hW6]; exact HB5.out.alloc HB5.out.size _)
      have HW6 := Lib.hid hW6
      have HPE := Lib.hid hp
      clear b hp hW6 HT4 HB4 hi
      go_upto_region 11 with fail
      rw [← HW6.out, ← HPE.out]
      go_wp2_with fail
      refine (DecodeR_any t (by have := HTZ.out; omega) W6).mono ?_
      rintro e W7 ⟨rfl, b⟩
      rw [HZ.out]
      have HP7 := Lib.hid (HP6.out.below b HP6.out.lt)
      have HT7 := Lib.hid (HT6.out.below b)
      have HB7 := Lib.hid (HB6.out.trans (b.mono HB6.out.size))
      obtain ⟨q, hq⟩ : ∃ q, q = W7.heap.size := ⟨_, rfl⟩
      obtain ⟨W8, hW8⟩ : ∃ W8, W8 = W7.alloc (.cells (jnv z) 24) := ⟨_, rfl⟩
      have HP8 := Lib.hid (show Blk W8 p 24 (jnv z) by rw [hW8]; exact HP7.out.alloc _)
      have HQ8 := Lib.hid (show Blk W8 q 24 (jnv z) by rw [hW8, hq]; exact Blk.new _ _ _)
      have HT8 := Lib.hid (show Tbl W8 by rw [hW8]; exact HT7.out.alloc _)
      have HB8 := Lib.hid (show Below w.heap.size w W8 by rw [hW8]; exact HB7.out.alloc HB7.out.size _)
      have HW8 := Lib.hid hW8
      have HQE := Lib.hid hq
      clear b hq hW8 HT6 HB6 HP6 HT5 HB5
      go_upto_region 12 with fail
      rw [← HW8.out, ← HQE.out]
      go_wp2_with (first
        | (refine wpList_load_row_w (by rfl) 24 _ rfl p rfl 24 (jnv z) (0, 0) _ ?_ Tryd.underlying24 rfl jn_size ?_; exact HP8.out)
        | (refine wpList_load_row_w (by rfl) 24 _ rfl q rfl 24 (jnv z) (0, 0) _ ?_ Tryd.underlying24 rfl jn_size ?_; exact HQ8.out)
        | (refine wpList_agg_ne (by rfl) 24 24 _ _ rfl (jnv z) (jnv z) rfl rfl (by kernel_rfl) true ?_ ?_; exact HJZ.out _))
      go_roundw
      case rel => exact ⟨j + 1, by have := HLT.out; omega, by go_num, HT8.out, HB8.out⟩
      case measure => simp [intOf]; omega
    · obtain rfl : j = 5 := by omega
      clear hlt hj
      go_wp2_with fail
      refine (works_t wr HT4.out).mono ?_
      rintro e W5 ⟨rfl, b⟩
      have HB5 := Lib.hid (HB4.out.trans (b.mono HB4.out.size))
      clear b
      go_wp2_with fail
      go_ret
      exact ⟨rfl, HB5.out⟩

set_option maxRecDepth 100000 in
theorem lifted (os : Os) (started : os.Started) (H : Type) (enc : TypeId × Value → H) :
    ReturnsInHanded {} Tryd.checked os 4 .any (fun w args => (Rows.joinReadsSpec.pre enc Tryd.prog Tryd.f4 [] false w args ∧ laidMetH Tryd.prog laid1 w) ∧ sizedMet enc Tryd.prog Tryd.f4 (OpenSpec.ofChange Rows.joinReadsSpec) false w args)
      (Rows.joinReadsSpec.post enc Tryd.prog Tryd.f4 false true false false) := by
  refine returnsInHanded_of_change_and (C := Tryd.checked) (X := fun w _ => laidMetH Tryd.prog laid1 w) (fun _ _ _ hh h => h.of_heap hh) own started (by kernel_rfl) Tryd.func4
    (ChangeSpec.witness_shaped (enc := enc) (C := Tryd.checked) (os := os) (X := fun w _ => laidMetH Tryd.prog laid1 w) false (World.doorLaid Tryd.prog 400 os) #[.string ByteArray.empty, .agg #[.int .u8 0, .int .u8 0, .bool false, .int .u32 0, .int .u32 0, .int .u8 0, .int .u8 0, .int .u8 0, .int .u8 0, .int .u8 0, .int .u8 0, .int .u8 0, .int .u8 0, .int .u8 0, .int .u8 0, .int .u8 0, .int .u8 0, .int .u8 0, .int .u8 0, .int .u8 0, .int .u8 0, .int .u8 0, .int .u8 0, .int .u8 0, .int .u8 0], .agg #[.int .u8 0, .int .u8 0]] 8 rfl (World.shaped_of_RefB (by kernel_rfl) (by kernel_rfl)) (by kernel_rfl) (by kernel_rfl) (by kernel_rfl) (door_met os _)) ?_
  intro W base args ds gs before hval0 hW hcnd hsz0 hL _
  have hsz : (DataW.weightsEach Tryd.prog (Tryd.f4.params.toList ++ Rows.joinReadsSpec.plain.varTypes Tryd.prog) (ds ++ gs)).all (· ≤ reachBytes) = true := hsz0
  have ht := table_of hL
  have hval : ∀ (j : Nat) t v, Tryd.f4.params[j]? = some t → args[j]? = some v → Value.okWide Tryd.prog W .any base t v := hval0
  have hW' := hW
  obtain ⟨p, q, hA0, hV, rfl, hfz, hnd⟩ := hW
  have hA : DataW.TrodAll enc Tryd.prog W 0 (fun _ => true) true Tryd.f4.params.toList args.toList ds p := hA0
  rw [Tryd.params4] at hA hval hsz
  obtain ⟨v0, vs0, d0, ds0, p0, q0, hargs, rfl, rfl, h0, r0⟩ := trodAll_cons hA
  obtain ⟨v1, vs1, d1, ds1, p1, q1, rfl, rfl, rfl, h1, r1⟩ := trodAll_cons r0
  obtain ⟨v2, vs2, d2, ds2, p2, q2, rfl, rfl, rfl, h2, r2⟩ := trodAll_cons r1
  obtain ⟨rfl, rfl, rfl⟩ := trodAll_nil r2
  obtain rfl : args = #[v0, v1, v2] := by cases args; simp_all
  obtain ⟨rfl, rfl⟩ := trodVars_none hV
  obtain ⟨a0, rfl, rfl, rfl, w0⟩ := Go.ChangeMaps.open_string Tryd.underlying9 (hval 0 9 v0 rfl rfl) h0
  have k1 := h1
  have lt1 : ∀ x ∈ p1, x.block < W.heap.size := by obtain ⟨m, hm⟩ := k1; exact DataW.trod_lt m _ _ _ hm
  obtain ⟨d, rfl, hd⟩ := open_draft (hval 1 33 v1 rfl rfl) h1
  have k2 := h2
  have lt2 : ∀ x ∈ p2, x.block < W.heap.size := by obtain ⟨m, hm⟩ := k2; exact DataW.trod_lt m _ _ _ hm
  obtain ⟨n0, n1, hn0, hn1, rfl⟩ := open_two (hval 2 34 v2 rfl rfl) h2
  have z0 : a0.size ≤ 140737488351232 := by have := sized_string hsz (j := 0) (t := 9) rfl rfl; simpa [reachBytes] using this
  clear hA0 hval0
  simp only [List.append_nil] at hW'
  refine (walk a0 z0 d hd n0 n1 hn0 hn1 W ht).mono fun e W' ⟨he, bel⟩ => ?_
  subst he
  exact ⟨_, rfl, _, _, _, [], _, [], hW', trodAll_mk1 (shut_bool Tryd.underlying4 _), (trodAll_cons_mk (Go.ChangeMaps.shut_string Tryd.underlying9 w0) (trodAll_cons_mk (Below.trod laidOut (by kernel_rfl) (of_decide_eq_true (by kernel_rfl)) k1 bel lt1) (trodAll_cons_mk (Below.trod laidOut (by kernel_rfl) (of_decide_eq_true (by kernel_rfl)) k2 bel lt2) trodAll_mk0))), rfl, bel.frame _, fun h => by cases h⟩

theorem over : Rows.JoinReadsSaid :=
  OpenClaim.holds_of_wide 4 Tryd.f4 rfl rfl rfl rfl rfl rfl rfl ⟨rfl, rfl, rfl, rfl, rfl⟩ rfl rfl rfl rfl rfl (by kernel_rfl) Tryd.func4 (by kernel_rfl)
    (of_decide_eq_true (by kernel_rfl)) (by unfold Func.isWrapper; first | (rw [if_pos (by decide +kernel)]; kernel_rfl) | (rw [if_neg (by decide +kernel)]; exact ⟨rfl, rfl⟩))
    (fun os started H enc _ => lifted os started H enc)

theorem proved : Rows.JoinReadsCardSaid :=
  Claim7.holds_tied_plain_at .later [] [.data] true _ false
    over (fun _ h => by cases h) (by kernel_rfl) (fun _ h => by cases h) joinReads_row_tie rfl ⟨rfl, rfl⟩ (by kernel_rfl) rfl
    (fun f fn hf hfn => by
      obtain rfl : f = 4 := Option.some.inj ((show Tryd.prog.funcNamed "plait/plaitlaw10.JoinReads" = some 4 by kernel_rfl).symm.trans hf) |>.symm
      obtain rfl : fn = Tryd.f4 := (Option.some.inj (Tryd.func4.symm.trans hfn)).symm
      exact ⟨by kernel_rfl, fun j t ht => by
        rw [Tryd.params4] at ht
        have hm : t ∈ ([9, 33, 34] : List TypeId) := by simpa using Array.mem_of_getElem? ht
        have hall : (([9, 33, 34] : List TypeId).all fun u => !Tryd.prog.wantsStandIn u) = true := by kernel_rfl
        exact (show Tryd.prog.wantsStandIn t = false by simpa using List.all_eq_true.1 hall t hm)⟩)
    (by kernel_rfl)
#print axioms proved
end Go.Proofs.YthnokkcpmikajaaDoor.joinReads
