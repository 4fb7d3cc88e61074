/-
  JoinPasses' walk for the second form: bits that are passed over make no difference, and what is read is laid again with these bits 0.
-/
import Derived.Test.YthnokkcpmikajaaDoorJoinPassWords
namespace Go.Proofs.YthnokkcpmikajaaDoor.joinPasses
open Go.ChangeShapes Go.WideShapes Go.ChangeAt Go.RowKit
set_option linter.unusedVariables false

set_option maxHeartbeats 4000000 in
set_option maxRecDepth 100000 in
theorem walk_1 (s : ByteArray) (hsz : s.size ≤ 140737488351232) (what : Nat) (hwh : what ≤ 255) (hw3 : what % 3 = 1) (bt : Nat) (hbt : bt ≤ 255) (w : World) (ht : Tbl w) :
    Calls Tryd.prog 6 #[.string s, .int .u8 (what : Int), .int .u8 (bt : Int)] w fun e w' => e = .returned (.bool true) ∧ Below w.heap.size w w' := by
  have em : (what : Int) % 3 = 1 := by omega
  have HT0 := Lib.hid ht
  have HG0 := Lib.hid ht.lt
  have HBT := Lib.hid hbt
  clear ht hw3 hwh hbt
  go_enter Tryd.func6, Tryd.ntmps6
  go_wp2_with fail
  refine (works_t w HT0.out).mono ?_
  rintro e V ⟨rfl, b⟩
  have HBV := Lib.hid b
  have HTV := Lib.hid (HT0.out.below b)
  clear b HT0
  go_upto_region 4 with fail
  clear em
  obtain ⟨ZR, hZR⟩ : ∃ Z, Z = txt (List.replicate 22 0) := ⟨_, rfl⟩
  have hzr : ZR.size = 22 := by rw [hZR, txt_size]; rfl
  obtain ⟨Z, hZ⟩ : ∃ Z, Z = s ++ ZR := ⟨_, rfl⟩
  have hzs : Z.size = s.size + 22 := by rw [hZ, ByteArray.size_append, hzr]
  have B0 : Below V.heap.size V V.drew := (Below.refl _ V).drew
  refine held_start (fun W => Below V.heap.size V W) (by kernel_rfl) (n := 10) rfl ?_
  obtain ⟨W0, hW0⟩ : ∃ W0, W0 = V.drew := ⟨_, rfl⟩
  rw [← hW0] at B0 ⊢
  clear hW0
  refine held_free 0 (.string s) rfl (by kernel_rfl) (by kernel_rfl) (by kernel_rfl) (by kernel_rfl) B0 (fun _ _ => by kernel_rfl) ?_
  refine held_free 5 (.agg #[.int .i64 10, .int .i64 14, .int .i64 22]) rfl (by kernel_rfl) (by kernel_rfl) (by kernel_rfl) (by kernel_rfl) B0 (fun _ _ => by kernel_rfl) ?_
  refine held_free 6 (.int .i64 1) rfl (by kernel_rfl) (by kernel_rfl) (by kernel_rfl) (by kernel_rfl) B0 (fun _ _ => by kernel_rfl) ?_
  refine held_free 7 (.int .i64 14) rfl (by kernel_rfl) (by kernel_rfl) (by kernel_rfl) (by kernel_rfl) B0 (fun _ _ => by kernel_rfl) ?_
  obtain ⟨W1, hW1⟩ : ∃ W1, W1 = W0.alloc (.cells (byv (List.replicate 22 0)) 5) := ⟨_, rfl⟩
  have B1 : Below V.heap.size V W1 := by rw [hW1]; exact B0.alloc B0.size _
  refine held_lone (v := .slice (some ⟨W0.heap.size, 0, none⟩) 22 22) (w' := W1) 1 rfl (by kernel_rfl) (by kernel_rfl) (by rw [hW1]; exact ex_make (v := .int .i64 22) (u := .int .i64 22) 36 (.const (.int .i64 22)) (.const (.int .i64 22)) (by kernel_rfl) (by kernel_rfl) (by kernel_rfl) (make_any W0 22 22 rfl (by decide))) B1 ?_
  refine held_lone (v := .string ZR) (w' := W1) 2 rfl (by kernel_rfl) (by kernel_rfl) (by rw [hW1, hZR]; exact ex_convert_to (v := .slice (some ⟨W0.heap.size, 0, none⟩) 22 22) 36 9 (.tmp 22) (by kernel_rfl) (by kernel_rfl) (zeros_text W0 22 22)) B1 ?_
  refine held_free 3 (.string Z) rfl (by kernel_rfl) (by kernel_rfl) (by kernel_rfl) (by kernel_rfl) B1 (fun _ _ => ex_strcat_sum 9 9 (.tmp 21) (.tmp 23) (by kernel_rfl) s ZR Z (by kernel_rfl) (by kernel_rfl) (by omega) hZ) ?_
  obtain ⟨g, hg⟩ : ∃ g, g = W1.heap.size := ⟨_, rfl⟩
  obtain ⟨cap, W2, hcv, hbl0, hbl, hvs, hcap⟩ := text_bytes2 W1 Z
  rw [← hg] at hcv hbl0 hvs
  have B2 : Below V.heap.size V W2 := B1.trans (hbl.mono B1.size)
  refine held_lone (v := .slice (some ⟨g, 0, none⟩) Z.size cap) (w' := W2) 4 rfl (by kernel_rfl) (by kernel_rfl) (by exact ex_convert_to (v := .string Z) 9 36 (.tmp 24) (by kernel_rfl) (by kernel_rfl) hcv) B2 ?_
  refine held_free 8 (.slice (some ⟨g, 0, none⟩) 14 cap) rfl (by kernel_rfl) (by kernel_rfl) (by kernel_rfl) (by kernel_rfl) B2 (fun W _ => ex_slice_front (v := .slice (some ⟨g, 0, none⟩) Z.size cap) (hv := .int .i64 14) 36 (.tmp 25) (.tmp 28) (by kernel_rfl) (by kernel_rfl) (by kernel_rfl) (slice_to W g Z.size 14 cap (by omega))) ?_
  refine held_free 9 (.slice (some ⟨g, 0, none⟩) 14 cap) rfl (by kernel_rfl) (by kernel_rfl) (by kernel_rfl) (by kernel_rfl) B2 (fun _ _ => by kernel_rfl) ?_
  refine held_end_at ⟨#[Value.string s, Value.int IntKind.u8 ↑what, Value.int IntKind.u8 ↑bt, undef, undef, undef, Value.bool false, .int .i64 1, .slice (some ⟨g, 0, none⟩) 14 cap, undef, undef, undef, undef, undef, undef, undef, Value.bool true, Value.bool false, Value.int IntKind.u8 ↑what, Value.int IntKind.u8 (↑what % 3), .int .i64 1, .string s, .slice (some ⟨W0.heap.size, 0, none⟩) 22 22, .string ZR, .string Z, .slice (some ⟨g, 0, none⟩) Z.size cap, .agg #[.int .i64 10, .int .i64 14, .int .i64 22], .int .i64 1, .int .i64 14, .slice (some ⟨g, 0, none⟩) 14 cap, undef, undef, undef, undef, undef, undef, undef, undef, undef, undef, undef, undef, undef, undef, undef, undef, undef, undef, undef, undef, undef, undef, undef, undef, undef, undef, undef, undef, undef, undef, undef, undef, undef, undef, undef, undef, undef, undef, undef, undef, undef, undef, undef, undef, undef, undef, undef, undef, undef, undef, undef, undef, undef, undef, undef, undef, undef, undef, undef, undef, undef, undef, undef, undef, undef, undef, undef, undef, undef, undef, undef, undef, undef, undef, undef, undef, undef, undef, undef, undef, undef, undef, undef, undef, undef], []⟩ (by kernel_rfl) (by kernel_rfl) ?_
  obtain ⟨u, v, r, tl, hL, hrl⟩ := front_bytes Z.data.toList 14 (by rw [len_data]; omega) (by decide)
  have HGW := Lib.hid (show w.heap.size ≤ g by rw [hg]; exact Nat.le_trans HBV.out.size B1.size)
  have HB_g_W2 := Lib.hid (Bts.front hbl0 (u :: v :: r) ⟨tl, hL⟩)
  have HT_W2 := Lib.hid (HTV.out.below B2)
  have HW_W2 := Lib.hid (HBV.out.trans (B2.mono HBV.out.size))
  have HRL := Lib.hid hrl
  clear hL tl hrl hg hcv hbl0 hbl hvs hcap B0 B1 B2 hW1 hZ hZR hzr hzs HTV HBV hsz
  obtain ⟨c1, hc1⟩ := u8_of (16 + u.toNat % 16) (by omega)
  have e15 : bits .or .u8 16 (bits .and .u8 (u.toNat : Int) 15) = (c1.toNat : Int) := by rw [hc1]; exact low15 ⟨u.toNat, u.toNat_lt⟩
  have HC1 := Lib.hid (show c1.toNat / 16 = 1 by omega)
  clear hc1
  have cc0 := HB_g_W2.out.cell 0 (by simp)
  have zz0 := HB_g_W2.out.frozen 0 (by simp)
  obtain ⟨W11, hW⟩ : ∃ W, W = W2.setCell ⟨g, 0, none⟩ (.int .u8 (c1.toNat : Int)) := ⟨_, rfl⟩
  simp only [List.getElem_cons_zero] at cc0
  have HB_g_W11 := Lib.hid (show Bts W11 g (c1 :: v :: r) from by rw [hW]; exact HB_g_W2.out.set_ 0 c1 (by simp))
  have HT_W11 := Lib.hid (show Tbl W11 from by rw [hW]; exact Tbl.set_ HT_W2.out (by have := HGW.out; have := HG0.out; omega) _ _)
  have HW_W11 := Lib.hid (show Below w.heap.size w W11 from by rw [hW]; exact HW_W2.out.setCell (p := ⟨g, 0, none⟩) HGW.out _)
  clear HB_g_W2 HT_W2 HW_W2
  have HWE := Lib.hid hW
  clear hW
  go_upto_region 6 with fail
  rw [← HWE.out]
  clear HWE cc0 zz0 e15
  obtain ⟨x, hx, hxf⟩ := got_form 1 14 (.inr (.inl ⟨rfl, rfl⟩)) c1.toNat v.toNat r
  have hsp := got_spec c1.toNat v.toNat v.toNat_lt r x (by rw [HRL.out]; exact hx)
  obtain ⟨hxo, hxm, hxr, hxb, -⟩ := hsp
  obtain ⟨T1, hT1⟩ : ∃ T, T = txt (c1 :: v :: r) := ⟨_, rfl⟩
  have hcv := bytes_text W11 g cap 14 (c1 :: v :: r) HB_g_W11.out (by simp only [List.length_cons]; have := HRL.out; omega)
  rw [← hT1] at hcv
  have HD1 := Lib.hid (show decV T1 = .tuple #[.agg (jnv x), .int .i64 0] from decV_eq _ _ _ (by rw [hT1]; exact two_dec c1 v r HC1.out x (by rw [HRL.out]; exact hx)))
  have HTZ1 := Lib.hid (show T1.size ≤ 22 by rw [hT1, two_size]; have := HRL.out; omega)
  have HX := Lib.hid hx
  have HXO := Lib.hid hxo
  have HXM := Lib.hid hxm
  have HXR := Lib.hid hxr
  have HXB := Lib.hid hxb
  have HXF := Lib.hid hxf
  clear hx hxo hxm hxr hxb hxf hT1
  go_wp2_with fail
  refine (Decode_any T1 (by have := HTZ1.out; omega) W11 HT_W11.out).mono ?_
  rintro e W12 ⟨rfl, b⟩
  rw [HD1.out]
  have HB_g_W12 := Lib.hid (show Bts W12 g (c1 :: v :: r) from HB_g_W11.out.below b HB_g_W11.out.1)
  have HT_W12 := Lib.hid (show Tbl W12 from HT_W11.out.below b)
  have HW_W12 := Lib.hid (show Below w.heap.size w W12 from HW_W11.out.trans (b.mono HW_W11.out.size))
  clear HB_g_W11 HT_W11 HW_W11
  clear b
  clear hcv
  obtain ⟨p, hp⟩ : ∃ p, p = W12.heap.size := ⟨_, rfl⟩
  obtain ⟨W13, hW⟩ : ∃ W, W = W12.alloc (.cells (jnv x) 24) := ⟨_, rfl⟩
  have N_g_p := Lib.hid (show g ≠ p by rw [hp]; exact Nat.ne_of_lt HB_g_W12.out.1)
  have HB_g_W13 := Lib.hid (show Bts W13 g (c1 :: v :: r) from by rw [hW]; exact HB_g_W12.out.alloc _)
  have HT_W13 := Lib.hid (show Tbl W13 from by rw [hW]; exact HT_W12.out.alloc _)
  have HW_W13 := Lib.hid (show Below w.heap.size w W13 from by rw [hW]; exact HW_W12.out.alloc HW_W12.out.size _)
  have HK_p_W13 := Lib.hid (show Blk W13 p 24 (jnv x) by rw [hW, hp]; exact Blk.new _ _ _)
  clear HB_g_W12 HT_W12 HW_W12
  have HWE := Lib.hid hW
  have HPE := Lib.hid hp
  clear hW hp
  go_upto_region 7 with fail
  rw [← HWE.out, ← HPE.out]
  clear HWE HPE
  obtain ⟨i0, hi, hz0, hz1, hz2⟩ := info_parts info8p
  have HI := Lib.hid hi
  have HZ0 := Lib.hid hz0
  have HZ1 := Lib.hid hz1
  have HZ2 := Lib.hid hz2
  have HOE := Lib.hid (own_none W13 W13.heap.size (Nat.le_refl _))
  have HNW := Lib.hid (show ∀ (j : Nat) (z : Value), (((c1 :: v :: r).map fun b => Value.int .u8 (b.toNat : Int)))[j]? = some z → (W13.alloc (.cells #[] 5)).cell? ((⟨g, 0, none⟩ : Addr).add j) = some z from fun j z hz => by
    rw [List.getElem?_map, Option.map_eq_some_iff] at hz
    obtain ⟨bb, hb, rfl⟩ := hz
    obtain ⟨hj, rfl⟩ := List.getElem?_eq_some_iff.1 hb
    rw [show (⟨g, 0, none⟩ : Addr).add j = ⟨g, j, none⟩ by unfold Addr.add; split <;> simp_all]
    exact (HB_g_W13.out.alloc _).cell j hj)
  have HLN := Lib.hid (show (((c1 :: v :: r).map fun b => Value.int .u8 (b.toNat : Int))).length = 14 * 1 by simp only [List.length_map, List.length_cons]; have := HRL.out; omega)
  clear hi hz0 hz1 hz2
  go_upto_region 8 with (at_builtin; refine wpList_append_own _ rfl (.tmp 43) (.tmp 44) 36 rfl W13.heap.size 5 i0 (.int .u8 0) 1 1 Tryd.underlying36 HI.out HZ0.out HZ1.out HZ2.out rfl (by decide) _ 0 [] rfl HOE.out ⟨g, 0, none⟩ 14 cap ((c1 :: v :: r).map fun b => Value.int .u8 (b.toNat : Int)) rfl HLN.out HNW.out (fun z hz => by obtain ⟨bb, _, rfl⟩ := List.mem_map.1 hz; rfl) (by decide) (by decide) (by simp) ?_; intro v1 W14 hown1 hgrow1 hnil1; have HO1 := Lib.hid hown1; have HG1 := Lib.hid hgrow1; clear hown1 hgrow1 hnil1)
  have hb6 : Below W13.heap.size W13 W14 := Below.grown ((Below.refl _ W13).alloc (Nat.le_refl _) _) HG1.out (by simp) (fun k hk => by cases hk; exact Nat.le_refl _)
  obtain ⟨g2, cap2, rfl, hg2, hbt2, hn2⟩ := Bts.of_own (l := c1 :: v :: r) (by have q := HO1.out; rw [List.nil_append, Nat.zero_add] at q; exact q) (by simp)
  have N_g_g2 := Lib.hid (show g ≠ g2 by have := HB_g_W13.out.1; omega)
  have N_p_g2 := Lib.hid (show p ≠ g2 by have := HK_p_W13.out.lt; omega)
  have HGW2 := Lib.hid (show w.heap.size ≤ g2 by have := HW_W13.out.size; omega)
  clear hg2 hn2 HO1 HG1 HOE HNW HLN HI HZ0 HZ1 HZ2
  have HB_g_W14 := Lib.hid (show Bts W14 g (c1 :: v :: r) from HB_g_W13.out.below hb6 HB_g_W13.out.1)
  have HK_p_W14 := Lib.hid (show Blk W14 p 24 (jnv x) from HK_p_W13.out.below hb6 HK_p_W13.out.lt)
  have HT_W14 := Lib.hid (show Tbl W14 from HT_W13.out.below hb6)
  have HW_W14 := Lib.hid (show Below w.heap.size w W14 from HW_W13.out.trans (hb6.mono HW_W13.out.size))
  have HB_g2_W14 := Lib.hid hbt2
  clear HB_g_W13 HK_p_W13 HT_W13 HW_W13
  clear hb6 hbt2
  obtain ⟨k, hk⟩ := and14 ⟨bt, by have := HBT.out; omega⟩
  obtain ⟨c2, hc2, h16, h21⟩ := turned c1.toNat (2 * k.val) c1.toNat_lt (by omega)
  have exx : bits .xor .u8 (c1.toNat : Int) (bits .and .u8 (bt : Int) 14) = (c2.toNat : Int) := by rw [← hc2]; congr 1
  have HC2 := Lib.hid (show c2.toNat / 16 = 1 by rw [h16 (by omega)]; exact HC1.out)
  have HP2 := Lib.hid (show c2.toNat % 2 = c1.toNat % 2 from h21 (by omega))
  clear hk hc2 h16 h21
  have cc0 := HB_g2_W14.out.cell 0 (by simp)
  have zz0 := HB_g2_W14.out.frozen 0 (by simp)
  obtain ⟨W15, hW⟩ : ∃ W, W = W14.setCell ⟨g2, 0, none⟩ (.int .u8 (c2.toNat : Int)) := ⟨_, rfl⟩
  simp only [List.getElem_cons_zero] at cc0
  have HB_g_W15 := Lib.hid (show Bts W15 g (c1 :: v :: r) from by rw [hW]; exact Bts.other HB_g_W14.out N_g_g2.out _ _)
  have HB_g2_W15 := Lib.hid (show Bts W15 g2 (c2 :: v :: r) from by rw [hW]; exact HB_g2_W14.out.set_ 0 c2 (by simp))
  have HK_p_W15 := Lib.hid (show Blk W15 p 24 (jnv x) from by rw [hW]; exact Blk.other_ HK_p_W14.out N_p_g2.out _ _)
  have HT_W15 := Lib.hid (show Tbl W15 from by rw [hW]; exact Tbl.set_ HT_W14.out (by have := HGW2.out; have := HG0.out; omega) _ _)
  have HW_W15 := Lib.hid (show Below w.heap.size w W15 from by rw [hW]; exact HW_W14.out.setCell (p := ⟨g2, 0, none⟩) HGW2.out _)
  clear HB_g_W14 HB_g2_W14 HK_p_W14 HT_W14 HW_W14
  have HWE := Lib.hid hW
  clear hW
  go_upto_region 12 with fail
  rw [← HWE.out]
  clear HWE cc0 zz0 exx
  obtain ⟨T2, hT2⟩ : ∃ T, T = txt (c2 :: v :: r) := ⟨_, rfl⟩
  have hcv := bytes_text W15 g2 cap2 14 (c2 :: v :: r) HB_g2_W15.out (by simp only [List.length_cons]; have := HRL.out; omega)
  rw [← hT2] at hcv
  have HD2 := Lib.hid (show decV T2 = .tuple #[.agg (jnv x), .int .i64 0] from decV_eq _ _ _ (by rw [hT2]; exact two_dec c2 v r HC2.out x (by rw [HRL.out, got_alike 1 14 (.inr ⟨rfl, rfl⟩) c1.toNat c2.toNat v.toNat HP2.out r]; exact HX.out)))
  have HTZ2 := Lib.hid (show T2.size ≤ 22 by rw [hT2, two_size]; have := HRL.out; omega)
  clear hT2
  go_wp2_with fail
  refine (Decode_any T2 (by have := HTZ2.out; omega) W15 HT_W15.out).mono ?_
  rintro e W16 ⟨rfl, b⟩
  rw [HD2.out]
  have HB_g_W16 := Lib.hid (show Bts W16 g (c1 :: v :: r) from HB_g_W15.out.below b HB_g_W15.out.1)
  have HB_g2_W16 := Lib.hid (show Bts W16 g2 (c2 :: v :: r) from HB_g2_W15.out.below b HB_g2_W15.out.1)
  have HK_p_W16 := Lib.hid (show Blk W16 p 24 (jnv x) from HK_p_W15.out.below b HK_p_W15.out.lt)
  have HT_W16 := Lib.hid (show Tbl W16 from HT_W15.out.below b)
  have HW_W16 := Lib.hid (show Below w.heap.size w W16 from HW_W15.out.trans (b.mono HW_W15.out.size))
  clear HB_g_W15 HB_g2_W15 HK_p_W15 HT_W15 HW_W15
  clear b
  clear hcv
  obtain ⟨q, hp⟩ : ∃ p, p = W16.heap.size := ⟨_, rfl⟩
  obtain ⟨W17, hW⟩ : ∃ W, W = W16.alloc (.cells (jnv x) 24) := ⟨_, rfl⟩
  have N_g_q := Lib.hid (show g ≠ q by rw [hp]; exact Nat.ne_of_lt HB_g_W16.out.1)
  have N_g2_q := Lib.hid (show g2 ≠ q by rw [hp]; exact Nat.ne_of_lt HB_g2_W16.out.1)
  have HB_g_W17 := Lib.hid (show Bts W17 g (c1 :: v :: r) from by rw [hW]; exact HB_g_W16.out.alloc _)
  have HB_g2_W17 := Lib.hid (show Bts W17 g2 (c2 :: v :: r) from by rw [hW]; exact HB_g2_W16.out.alloc _)
  have HK_p_W17 := Lib.hid (show Blk W17 p 24 (jnv x) from by rw [hW]; exact HK_p_W16.out.alloc _)
  have HT_W17 := Lib.hid (show Tbl W17 from by rw [hW]; exact HT_W16.out.alloc _)
  have HW_W17 := Lib.hid (show Below w.heap.size w W17 from by rw [hW]; exact HW_W16.out.alloc HW_W16.out.size _)
  have HK_q_W17 := Lib.hid (show Blk W17 q 24 (jnv x) by rw [hW, hp]; exact Blk.new _ _ _)
  clear HB_g_W16 HB_g2_W16 HK_p_W16 HT_W16 HW_W16
  have HWE := Lib.hid hW
  have HPE := Lib.hid hp
  clear hW hp
  go_upto_region 13 with fail
  rw [← HWE.out, ← HPE.out]
  clear HWE HPE
  have cf : W17.cell? ⟨p, 0, none⟩ = some (.int .i64 1) := (HK_p_W17.out.cell 0).trans (by rw [show (jnv x)[0]? = some (.int .i64 x.form) from rfl, HXF.out]; rfl)
  have HJX := Lib.hid (jn_equal_b x x true (jeq_self x))
  go_upto_region 15 with (first
    | (refine wpList_load_row_w (by rfl) 24 _ rfl p rfl 24 (jnv x) (0, 0) _ ?_ Tryd.underlying24 rfl jn_size ?_; exact HK_p_W17.out)
    | (refine wpList_load_row_w (by rfl) 24 _ rfl q rfl 24 (jnv x) (0, 0) _ ?_ Tryd.underlying24 rfl jn_size ?_; exact HK_q_W17.out)
    | (refine wpList_agg_ne (by rfl) 24 24 _ _ rfl (jnv x) (jnv x) rfl rfl (by kernel_rfl) true ?_ ?_; exact HJX.out _))
  clear cf
  obtain ⟨c5, hc5⟩ := u8_of (16 + c1.toNat % 2) (by omega)
  have e17 : bits .and .u8 (c1.toNat : Int) 17 = (c5.toNat : Int) := by rw [hc5]; exact mask17 ⟨c1.toNat, c1.toNat_lt⟩ HC1.out
  have HC5 := Lib.hid hc5
  clear hc5
  have cc0 := HB_g_W17.out.cell 0 (by simp)
  have zz0 := HB_g_W17.out.frozen 0 (by simp)
  obtain ⟨W18, hW⟩ : ∃ W, W = W17.setCell ⟨g, 0, none⟩ (.int .u8 (c5.toNat : Int)) := ⟨_, rfl⟩
  simp only [List.getElem_cons_zero] at cc0
  have HB_g_W18 := Lib.hid (show Bts W18 g (c5 :: v :: r) from by rw [hW]; exact HB_g_W17.out.set_ 0 c5 (by simp))
  have HB_g2_W18 := Lib.hid (show Bts W18 g2 (c2 :: v :: r) from by rw [hW]; exact Bts.other HB_g2_W17.out N_g_g2.out.symm _ _)
  have HK_p_W18 := Lib.hid (show Blk W18 p 24 (jnv x) from by rw [hW]; exact Blk.other_ HK_p_W17.out N_g_p.out.symm _ _)
  have HK_q_W18 := Lib.hid (show Blk W18 q 24 (jnv x) from by rw [hW]; exact Blk.other_ HK_q_W17.out N_g_q.out.symm _ _)
  have HT_W18 := Lib.hid (show Tbl W18 from by rw [hW]; exact Tbl.set_ HT_W17.out (by have := HGW.out; have := HG0.out; omega) _ _)
  have HW_W18 := Lib.hid (show Below w.heap.size w W18 from by rw [hW]; exact HW_W17.out.setCell (p := ⟨g, 0, none⟩) HGW.out _)
  clear HB_g_W17 HB_g2_W17 HK_p_W17 HK_q_W17 HT_W17 HW_W17
  have HWE := Lib.hid hW
  clear hW
  go_upto_region 18 with fail
  rw [← HWE.out]
  clear HWE cc0 zz0 e17
  have hb := HXB.out (by rw [HXF.out]; decide)
  have hbody : x.body = c5 :: v :: r := by
    unfold Jn.body
    rw [HXR.out, ← hb.1, ← hb.2]
    congr 1
    · apply UInt8.toNat_inj.1
      rw [ofNat_first, HC5.out]
      by_cases h : c1.toNat % 2 = 1
      · rw [decide_eq_true h, h]; rfl
      · rw [decide_eq_false h, show c1.toNat % 2 = 0 by omega]; rfl
    · congr 1
      apply UInt8.toNat_inj.1
      rw [Int.toNat_natCast, byte_of _ v.toNat_lt]
  obtain ⟨T5, hT5⟩ : ∃ T, T = txt (c5 :: v :: r) := ⟨_, rfl⟩
  have HES := Lib.hid (show encV x = .tuple #[.string T5, .int .i64 0] by rw [encV_t x HXM.out, hbody, hT5])
  have HT5 := Lib.hid hT5
  clear hb hbody hT5
  go_wp2_with (refine wpList_load_row_w (by rfl) 24 _ rfl p rfl 24 (jnv x) (0, 0) _ ?_ Tryd.underlying24 rfl jn_size ?_; exact HK_p_W18.out)
  refine (Encode_any x HXO.out W18 HT_W18.out).mono ?_
  rintro e W19 ⟨rfl, b⟩
  rw [HES.out]
  have HB_g_W19 := Lib.hid (show Bts W19 g (c5 :: v :: r) from HB_g_W18.out.below b HB_g_W18.out.1)
  have HB_g2_W19 := Lib.hid (show Bts W19 g2 (c2 :: v :: r) from HB_g2_W18.out.below b HB_g2_W18.out.1)
  have HK_p_W19 := Lib.hid (show Blk W19 p 24 (jnv x) from HK_p_W18.out.below b HK_p_W18.out.lt)
  have HK_q_W19 := Lib.hid (show Blk W19 q 24 (jnv x) from HK_q_W18.out.below b HK_q_W18.out.lt)
  have HT_W19 := Lib.hid (show Tbl W19 from HT_W18.out.below b)
  have HW_W19 := Lib.hid (show Below w.heap.size w W19 from HW_W18.out.trans (b.mono HW_W18.out.size))
  clear HB_g_W18 HB_g2_W18 HK_p_W18 HK_q_W18 HT_W18 HW_W18
  clear b
  have hcv := bytes_text W19 g cap 14 (c5 :: v :: r) HB_g_W19.out (by simp only [List.length_cons]; have := HRL.out; omega)
  rw [← HT5.out] at hcv
  go_wp2_with fail
  go_ret
  exact ⟨rfl, HW_W19.out⟩
end Go.Proofs.YthnokkcpmikajaaDoor.joinPasses
