/-
  What any item is read as, and a draft's, with one byte otherwise, cut, or of another Kind, is as the document says (statement OptReads, promise P14.2), of all items, drafts, places and bytes, without condition but the variables' own initial values, which the card ties to the program's text.
-/
import Derived.Test.YtnlhhjhidkjlbaaGreatDoorAllBase
import Derived.Test.YtnlhhjhidkjlbaaGreatDoorAllOpt1
set_option maxHeartbeats 4000000
set_option maxRecDepth 100000
set_option linter.unusedVariables false
set_option linter.unusedSimpArgs false
namespace Go.Proofs.YtnlhhjhidkjlbaaGreatDoor.L14.optReads
open Go Go.ChangeShapes Go.WideShapes Go.ChangeAt Go.RowKit
theorem walk (k : Int) (s : ByteArray) (d : Dr) (hd : d.Ok) (n0 n1 : Nat) (hn0 : n0 ≤ 255) (hn1 : n1 ≤ 255) (w : World) (ht : L10.Tbl w ∧ Hnd w) :
    Calls Tryz.prog 4 #[.agg (itv (k, s)), .agg (drv d), .agg #[.int .u8 (n0 : Int), .int .u8 (n1 : Int)]] w (Rt w (.bool true)) := by
  have HT := Lh ht.1
  have HH := Lh ht.2
  have HLD := Lh hd.bs
  have HN0 := Lh hn0
  obtain ⟨v, hv⟩ : ∃ v : UInt8, v.toNat = n1 := ⟨UInt8.ofNat n1, by rw [UInt8.toNat_ofNat']; omega⟩
  have HV := Lh hv
  obtain ⟨x, hx⟩ := eqx d.op
  have HXO := Lh (show x.Ok by rw [hx]; exact (d.op_may hd).1)
  have HXM := Lh (show kS x by rw [hx]; exact (d.op_may hd).2)
  have HXS := Lh (show x.rm.size ≤ 4611686018427387904 by rw [hx]; have := op_rm d; omega)
  have HCX := Lh (show ∀ W, Calls Tryz.prog 11 #[.agg (drv d)] W (Rt W (.agg (ov x))) from fun W => by rw [hx]; exact Opt_any d hd W)
  obtain ⟨T, hT⟩ := eqx x.body.1
  have HSS := Lh (show 1 ≤ T.size ∧ T.size ≤ 38 by rw [hT]; exact yJ x HXM.out.1)
  have HES := Lh (show dC x = .tuple #[.agg (itv (30, T)), .int .i64 0] by unfold dC; rw [xN HXM.out, hT])
  obtain ⟨m0, F, hF, eF0, mF0, lF0, zF⟩ := wL s
  have HFZ := Lh (show F.size ≤ 60 by rw [hF]; exact pG s)
  have EF := Lh eF0
  have MF := Lh mF0
  have LF := Lh lF0
  clear ht hd hx hT hn0 hn1 hv hF eF0 mF0 lF0 zF
  go_enter Tryz.func4, Tryz.ntmps4
  go_upto_region 1 with (first
        | (refine aV rfl 53 _ rfl (itv (k, s)) rfl ?_; intro V1 Xx hX hU; have hB := (boxed hX hU).2; have Hx_1 := Lh (boxed hX hU).1; have Gx := Lh (show w.heap.size ≤ Xx by rw [hX]; exact Nat.le_refl _); have yE := Lh (hB); clear hX hU hB)
        | (refine aV rfl 48 _ rfl (drv d) rfl ?_; intro V2 Xd hX hU; have hB := (boxed hX hU).2; have Hd_2 := Lh (boxed hX hU).1; have Gd := Lh (show w.heap.size ≤ Xd by rw [hX]; exact yE.out.size); have HB_2 := Lh (yE.out.trans (hB.mono yE.out.size)); have Hx_2 := Lh (Hx_1.out.below hB Hx_1.out.lt); clear hX hU hB)
        | (refine aV rfl 60 _ rfl #[.int .u8 (n0 : Int), .int .u8 (n1 : Int)] rfl ?_; intro V3 Xn hX hU; have hB := (boxed hX hU).2; have Hn_3 := Lh (boxed hX hU).1; have Gn := Lh (show w.heap.size ≤ Xn by rw [hX]; exact HB_2.out.size); have HB_3 := Lh (HB_2.out.trans (hB.mono HB_2.out.size)); have Hx_3 := Lh (Hx_2.out.below hB Hx_2.out.lt); have Hd_3 := Lh (Hd_2.out.below hB Hd_2.out.lt); clear hX hU hB))
  have ck := (Hx_3.out.cell 1).trans (show _ = some (Value.string s) by kernel_rfl)
  have fz := Hx_3.out.frozen 1
  have eF := EF.out
  have mF := MF.out
  have lF := LF.out
  obtain ⟨W1, hY⟩ : ∃ Y, Y = V3.setCell ⟨Xx, 1, none⟩ (.string F) := ⟨_, rfl⟩
  have HYE := Lh hY
  have Nx_1 := Lh (show Blk W1 Xx 53 (itv (k, F)) by rw [hY, show itv (k, F) = (itv (k, s)).setIfInBounds 1 (.string F) by kernel_rfl]; exact Hx_3.out.gG 1 _)
  have Nd_1 := Lh (show Blk W1 Xd 48 (drv d) by rw [hY]; exact Hd_3.out.same (Below.heap_setCell _ ⟨Xx, 1, none⟩ _ _ (Blk.ne_ Hd_3.out Hx_3.out (by decide))))
  have Nn_1 := Lh (show Blk W1 Xn 60 #[.int .u8 (n0 : Int), .int .u8 (n1 : Int)] by rw [hY]; exact Hn_3.out.same (Below.heap_setCell _ ⟨Xx, 1, none⟩ _ _ (Blk.ne_ Hn_3.out Hx_3.out (by decide))))
  have BW1 := Lh (show Below w.heap.size w W1 by rw [hY]; exact HB_3.out.setCell (p := ⟨Xx, 1, none⟩) Gx.out _)
  clear hY
  go_upto_region 2 with fail
  rw [← HYE.out]
  clear HYE ck fz eF mF lF
  go_wp2_with (refine wpList_load_row rfl 48 _ rfl Xd rfl 48 (drv d) (0, 0) _ ?_ Tryz.underlying48 rfl (tK d HLD.out) ?_; exact Nd_1.out)
  refine (HCX.out W1).mono ?_
  rintro e U4 ⟨rfl, q⟩
  have HB_4 := Lh (BW1.out.trans (q.mono BW1.out.size))
  have Hx_4 := Lh (Nx_1.out.below q Nx_1.out.lt)
  have Hd_4 := Lh (Nd_1.out.below q Nd_1.out.lt)
  have Hn_4 := Lh (Nn_1.out.below q Nn_1.out.lt)
  clear q
  go_wp2_with fail
  refine (answer (iH x HXO.out HXS.out U4) (v' := .tuple #[.agg (itv (30, T)), .int .i64 0]) HES.out).mono ?_
  rintro e U5 ⟨rfl, q⟩
  have zZ := Lh (HB_4.out.trans (q.mono HB_4.out.size))
  have Hx_5 := Lh (Hx_4.out.below q Hx_4.out.lt)
  have Hn_5 := Lh (Hn_4.out.below q Hn_4.out.lt)
  clear q
  go_upto_region 3 with (refine tV rfl rfl 7 rfl rfl _ rfl (30, T) (fun _ => by kernel_rfl) (fun _ => by kernel_rfl) ?_; intro V6 Xi hb hB hx; have Hi_6 := Lh hb; have Gi := Lh (Nat.le_trans zZ.out.size hx); have HB_6 := Lh (zZ.out.trans (hB.mono zZ.out.size)); have Hx_6 := Lh (Hx_5.out.below hB Hx_5.out.lt); have Hn_6 := Lh (Hn_5.out.below hB Hn_5.out.lt); clear hb hB hx)
  have ci := (Hi_6.out.cell 1).trans (show _ = some (Value.string T) by kernel_rfl)
  have e0 : ((T.size : Int) == 0) = false := by rw [beq_eq_false_iff_ne]; have := HSS.out; omega
  go_upto_region 5 with fail
  obtain ⟨g, hg⟩ := eqx V6.heap.size
  obtain ⟨cap, VB, hcv, hbt, hbl, hvs⟩ := text_bytes V6 T
  have HG := Lh hg
  have Lx := Lh (show Xx < g by rw [hg]; exact Hx_6.out.lt)
  have Ln := Lh (show Xn < g by rw [hg]; exact Hn_6.out.lt)
  have Li := Lh (show Xi < g by rw [hg]; exact Hi_6.out.lt)
  have LW := Lh (show w.heap.size ≤ g by rw [hg]; exact HB_6.out.size)
  have HB_7 := Lh (HB_6.out.trans (hbl.mono HB_6.out.size))
  have Hx_7 := Lh (Hx_6.out.below hbl Hx_6.out.lt)
  have Hn_7 := Lh (Hn_6.out.below hbl Hn_6.out.lt)
  have Hi_7 := Lh (Hi_6.out.below hbl Hi_6.out.lt)
  rw [← hg] at hbt hvs
  have HBT := Lh hbt
  have HGV := Lh (show g < VB.heap.size by omega)
  clear hbt hbl hvs hg
  go_upto_region 6 with fail
  rw [← HG.out]
  clear hcv
  obtain ⟨r, hr⟩ : ∃ r, n0 % T.size = r := ⟨_, rfl⟩
  have hrl : r < T.size := by rw [← hr]; exact Nat.mod_lt _ (by have := HSS.out; omega)
  have HRM := Lh hr
  have HRL := Lh hrl
  obtain ⟨l, hl⟩ := eqx T.data.toList
  have HLL := Lh (show l.length = T.size by rw [hl]; exact bG T)
  rw [← hl] at HBT
  clear hr hrl hl
  have B0 : Below VB.heap.size VB VB.drew := (Below.refl _ VB).drew
  refine jL 10 (fun W => Below VB.heap.size VB W) (by kernel_rfl) (n := 11) rfl ?_
  obtain ⟨W0, hW0⟩ := eqx VB.drew
  rw [← hW0] at B0 ⊢
  clear hW0
  refine wkF 0 (.slice (some ⟨g, 0, none⟩) T.size cap) rfl B0 (wkF 1 (.pointer (some ⟨Xn, 0, none⟩)) rfl B0 (wkG 2 (.int .u8 (n0 : Int)) rfl B0 (fun W q => xLd 5 (.tmp 42) ⟨Xn, 0, none⟩ (((Hn_7.out.below q Hn_7.out.lt).cell 0).trans rfl)) (wkG 3 (.int .i64 (n0 : Int)) rfl B0 (fun W _ => aH (v := .int .u8 (n0 : Int)) 5 3 (.tmp 43) (by kernel_rfl) (by kernel_rfl) (conv_b n0 HN0.out W)) (wkF 4 (.slice (some ⟨g, 0, none⟩) T.size cap) rfl B0 (wkF 5 (.int .i64 (T.size : Int)) rfl B0 (wkG 6 (.int .i64 (r : Int)) rfl B0 (fun W _ => ex_rem 3 3 (.tmp 44) (.tmp 46) n0 T.size r (by have := HSS.out; omega) (by have := HSS.out; omega) HRM.out) (wkF 7 (.pointer (some ⟨Xn, 1, none⟩)) rfl B0 (wkG 8 (.int .u8 (n1 : Int)) rfl B0 (fun W q => xLd 5 (.tmp 48) ⟨Xn, 1, none⟩ (((Hn_7.out.below q Hn_7.out.lt).cell 1).trans rfl)) (wkG 9 (.pointer (some ⟨g, r, none⟩)) rfl B0 (fun W _ => ex_index (t := 61) (x := .tmp 41) (y := .tmp 47) (n := .slice (some ⟨g, 0, none⟩) T.size cap) (i := .int .i64 (r : Int)) (by kernel_rfl) (by kernel_rfl) (by kernel_rfl) (place_b g r T.size cap HRL.out (by have := HSS.out; omega) W)) ?_)))))))))
  refine bI 10 (by kernel_rfl) (oZ 10 rfl (by kernel_rfl) (fO 5 (.tmp 50) (.tmp 49) (by kernel_rfl) ⟨g, r, none⟩ (.int .u8 (n1 : Int)) (by kernel_rfl) (by kernel_rfl) (store_b _ g r _ _ ((HBT.out.below B0 HGV.out).cell r (by rw [HLL.out]; exact HRL.out)) ((HBT.out.below B0 HGV.out).frozen r (by rw [HLL.out]; exact HRL.out)))) (by kernel_rfl) ?_)
  refine dI ⟨List.toArray (Value.agg (itv (k, s)) :: Value.agg (drv d) :: Value.agg #[.int .u8 (n0 : Int), .int .u8 (n1 : Int)] :: Value.pointer (some ⟨Xx, 0, none⟩) :: Value.pointer (some ⟨Xd, 0, none⟩) :: Value.pointer (some ⟨Xn, 0, none⟩) :: Value.bool false :: Value.pointer (some ⟨Xi, 0, none⟩) :: Value.int .i64 0 :: Value.slice (some ⟨g, 0, none⟩) T.size cap :: undef :: undef :: undef :: undef :: undef :: undef :: Value.pointer (some ⟨Xx, 1, none⟩) :: Value.string s :: Value.pointer (some ⟨Xx, 1, none⟩) :: Value.string s :: Value.int .i64 (s.size : Int) :: Value.int .i64 (m0 : Int) :: Value.string F :: Value.pointer (some ⟨Xx, 1, none⟩) :: Value.tuple #[.agg (itv (30, T)), .int .i64 0] :: Value.agg (drv d) :: Value.agg (ov x) :: Value.tuple #[.agg (itv (30, T)), .int .i64 0] :: Value.agg (itv (30, T)) :: Value.int .i64 0 :: Value.int .i64 0 :: Value.bool false :: Value.bool false :: Value.pointer (some ⟨Xi, 1, none⟩) :: Value.string T :: Value.int .i64 (T.size : Int) :: Value.bool false :: Value.bool false :: Value.pointer (some ⟨Xi, 1, none⟩) :: Value.string T :: Value.slice (some ⟨g, 0, none⟩) T.size cap :: Value.slice (some ⟨g, 0, none⟩) T.size cap :: Value.pointer (some ⟨Xn, 0, none⟩) :: Value.int .u8 (n0 : Int) :: Value.int .i64 (n0 : Int) :: Value.slice (some ⟨g, 0, none⟩) T.size cap :: Value.int .i64 (T.size : Int) :: Value.int .i64 (r : Int) :: Value.pointer (some ⟨Xn, 1, none⟩) :: Value.int .u8 (n1 : Int) :: Value.pointer (some ⟨g, r, none⟩) :: undef :: undef :: undef :: undef :: undef :: undef :: undef :: undef :: undef :: undef :: undef :: undef :: undef :: undef :: undef :: undef :: undef :: undef :: undef :: undef :: undef :: undef :: undef :: undef :: undef :: undef :: undef :: undef :: undef :: undef :: undef :: undef :: undef :: undef :: undef :: undef :: undef :: undef :: undef :: undef :: undef :: undef :: undef :: undef :: undef :: undef :: undef :: undef :: []), []⟩ (by kernel_rfl) (by kernel_rfl) ?_
  obtain ⟨Y, hY⟩ := eqx (W0.setCell ⟨g, r, none⟩ (.int .u8 (n1 : Int)))
  rw [← hY]
  obtain ⟨L2, hL2⟩ := eqx (l.set r v)
  have HSZ2 := Lh (show L2.length = T.size by rw [hL2, List.length_set]; exact HLL.out)
  have HL2 := Lh hL2
  have HBTY := Lh (show Bts Y g L2 by rw [hY, hL2, ← HV.out]; exact (HBT.out.below B0 HGV.out).gG r v (by rw [HLL.out]; exact HRL.out))
  have hVY : Below g VB Y := by rw [hY]; exact (B0.mono (Nat.le_of_lt HGV.out)).setCell (p := ⟨g, r, none⟩) (Nat.le_refl g) _
  have Nx_Y := Lh (Hx_7.out.below hVY Lx.out)
  have Nn_Y := Lh (Hn_7.out.below hVY Ln.out)
  have Ni_Y := Lh (Hi_7.out.below hVY Li.out)
  have HB_Y := Lh (HB_7.out.trans (hVY.mono LW.out))
  obtain ⟨U, hU⟩ := eqx (txt L2)
  have HU := Lh hU
  have HUZ := Lh (show U.size ≤ 38 by rw [hU, aU, HSZ2.out]; exact HSS.out.2)
  clear hL2 hVY hU hY B0 HBT
  obtain ⟨C, hC⟩ := eqx (T.extract 0 r)
  have HC := Lh hC
  have HCZ := Lh (show C.size ≤ 38 by rw [hC, ByteArray.size_extract]; have := HRL.out; have := HSS.out; omega)
  clear hC
  go_upto_region 7 with fail
  refine bZ (n := 26) rfl ?_
  intro Z0 B0
  refine stG 0 (.agg (itv (k, F))) rfl B0 (fun W q => xRw 53 (.tmp 3) Xx (Nx_Y.out.below q Nx_Y.out.lt) Tryz.underlying53 (dX _)) (stF 1 (.pointer (some ⟨Xx, 1, none⟩)) rfl B0 (stG 2 (.string F) rfl B0 (fun W q => xLd 9 (.tmp 52) ⟨Xx, 1, none⟩ (((Nx_Y.out.below q Nx_Y.out.lt).cell 1).trans rfl)) (stF 3 (.agg (itv (30, F))) rfl B0 (stG 4 (.agg (itv (30, T))) rfl B0 (fun W q => xRw 53 (.tmp 7) Xi (Ni_Y.out.below q Ni_Y.out.lt) Tryz.underlying53 (dX _)) (stF 5 (.slice (some ⟨g, 0, none⟩) T.size cap) rfl B0 (stG 6 (.string U) rfl B0 (fun W q => aH (v := .slice (some ⟨g, 0, none⟩) T.size cap) 61 9 (.tmp 56) (by kernel_rfl) (by kernel_rfl) (by rw [HU.out]; exact bytes_text W g cap T.size L2 (HBTY.out.below q HBTY.out.1) HSZ2.out.symm)) (stF 7 (.agg (itv (30, U))) rfl B0 (stF 8 (.pointer (some ⟨Xi, 1, none⟩)) rfl B0 (stG 9 (.string T) rfl B0 (fun W q => xLd 9 (.tmp 59) ⟨Xi, 1, none⟩ (((Ni_Y.out.below q Ni_Y.out.lt).cell 1).trans rfl)) ?_)))))))))
  refine stF 10 (.pointer (some ⟨Xn, 0, none⟩)) rfl B0 (stG 11 (.int .u8 (n0 : Int)) rfl B0 (fun W q => xLd 5 (.tmp 61) ⟨Xn, 0, none⟩ (((Nn_Y.out.below q Nn_Y.out.lt).cell 0).trans rfl)) (stG 12 (.int .i64 (n0 : Int)) rfl B0 (fun W _ => aH (v := .int .u8 (n0 : Int)) 5 3 (.tmp 62) (by kernel_rfl) (by kernel_rfl) (conv_b n0 HN0.out W)) (stF 13 (.pointer (some ⟨Xi, 1, none⟩)) rfl B0 (stG 14 (.string T) rfl B0 (fun W q => xLd 9 (.tmp 64) ⟨Xi, 1, none⟩ (((Ni_Y.out.below q Ni_Y.out.lt).cell 1).trans rfl)) (stF 15 (.int .i64 (T.size : Int)) rfl B0 (stG 16 (.int .i64 (r : Int)) rfl B0 (fun W _ => ex_rem 3 3 (.tmp 63) (.tmp 66) n0 T.size r (by have := HSS.out; omega) (by have := HSS.out; omega) HRM.out) (stG 17 (.string C) rfl B0 (fun W _ => kY (v := .string T) (hv := .int .i64 (r : Int)) 9 (.tmp 60) (.tmp 67) (by kernel_rfl) (by kernel_rfl) (by kernel_rfl) (by rw [HC.out]; exact str_front T r (Nat.le_of_lt HRL.out) W)) (stF 18 (.agg (itv (30, C))) rfl B0 (stF 19 (.pointer (some ⟨Xx, 0, none⟩)) rfl B0 ?_)))))))))
  refine stG 20 (.int .i64 k) rfl B0 (fun W q => xLd 3 (.tmp 70) ⟨Xx, 0, none⟩ (((Nx_Y.out.below q Nx_Y.out.lt).cell 0).trans rfl)) (stF 21 (.pointer (some ⟨Xi, 1, none⟩)) rfl B0 (stG 22 (.string T) rfl B0 (fun W q => xLd 9 (.tmp 72) ⟨Xi, 1, none⟩ (((Ni_Y.out.below q Ni_Y.out.lt).cell 1).trans rfl)) (stF 23 (.agg (itv (k, T))) rfl B0 (stF 24 (.agg (itv (k, F) ++ itv (30, F) ++ itv (30, T) ++ itv (30, U) ++ itv (30, C) ++ itv (k, T))) rfl B0 (stF 25 (.int .i64 0) rfl B0 ?_)))))
  refine aZ ⟨List.toArray (Value.agg (itv (k, s)) :: Value.agg (drv d) :: Value.agg #[.int .u8 (n0 : Int), .int .u8 (n1 : Int)] :: Value.pointer (some ⟨Xx, 0, none⟩) :: Value.pointer (some ⟨Xd, 0, none⟩) :: Value.pointer (some ⟨Xn, 0, none⟩) :: Value.bool false :: Value.pointer (some ⟨Xi, 0, none⟩) :: Value.int .i64 0 :: Value.slice (some ⟨g, 0, none⟩) T.size cap :: undef :: undef :: undef :: undef :: undef :: undef :: Value.pointer (some ⟨Xx, 1, none⟩) :: Value.string s :: Value.pointer (some ⟨Xx, 1, none⟩) :: Value.string s :: Value.int .i64 (s.size : Int) :: Value.int .i64 (m0 : Int) :: Value.string F :: Value.pointer (some ⟨Xx, 1, none⟩) :: Value.tuple #[.agg (itv (30, T)), .int .i64 0] :: Value.agg (drv d) :: Value.agg (ov x) :: Value.tuple #[.agg (itv (30, T)), .int .i64 0] :: Value.agg (itv (30, T)) :: Value.int .i64 0 :: Value.int .i64 0 :: Value.bool false :: Value.bool false :: Value.pointer (some ⟨Xi, 1, none⟩) :: Value.string T :: Value.int .i64 (T.size : Int) :: Value.bool false :: Value.bool false :: Value.pointer (some ⟨Xi, 1, none⟩) :: Value.string T :: Value.slice (some ⟨g, 0, none⟩) T.size cap :: Value.slice (some ⟨g, 0, none⟩) T.size cap :: Value.pointer (some ⟨Xn, 0, none⟩) :: Value.int .u8 (n0 : Int) :: Value.int .i64 (n0 : Int) :: Value.slice (some ⟨g, 0, none⟩) T.size cap :: Value.int .i64 (T.size : Int) :: Value.int .i64 (r : Int) :: Value.pointer (some ⟨Xn, 1, none⟩) :: Value.int .u8 (n1 : Int) :: Value.pointer (some ⟨g, r, none⟩) :: Value.agg (itv (k, F)) :: Value.pointer (some ⟨Xx, 1, none⟩) :: Value.string F :: Value.agg (itv (30, F)) :: Value.agg (itv (30, T)) :: Value.slice (some ⟨g, 0, none⟩) T.size cap :: Value.string U :: Value.agg (itv (30, U)) :: Value.pointer (some ⟨Xi, 1, none⟩) :: Value.string T :: Value.pointer (some ⟨Xn, 0, none⟩) :: Value.int .u8 (n0 : Int) :: Value.int .i64 (n0 : Int) :: Value.pointer (some ⟨Xi, 1, none⟩) :: Value.string T :: Value.int .i64 (T.size : Int) :: Value.int .i64 (r : Int) :: Value.string C :: Value.agg (itv (30, C)) :: Value.pointer (some ⟨Xx, 0, none⟩) :: Value.int .i64 k :: Value.pointer (some ⟨Xi, 1, none⟩) :: Value.string T :: Value.agg (itv (k, T)) :: Value.agg (itv (k, F) ++ itv (30, F) ++ itv (30, T) ++ itv (30, U) ++ itv (30, C) ++ itv (k, T)) :: Value.int .i64 0 :: undef :: undef :: undef :: undef :: undef :: undef :: undef :: undef :: undef :: undef :: undef :: undef :: undef :: undef :: undef :: undef :: undef :: undef :: undef :: undef :: undef :: undef :: []), []⟩ (by kernel_rfl) (by kernel_rfl) ?_
  have HB_8 := Lh (HB_Y.out.trans (B0.mono HB_Y.out.size))
  clear B0
  have HIDX := Lh (show ∀ j < 6, ∃ p : L4.It, p.2.size ≤ 1000 ∧ ∀ W, (Instr.index 62 (.agg (itv (k, F) ++ itv (30, F) ++ itv (30, T) ++ itv (30, U) ++ itv (30, C) ++ itv (k, T))) (.int .i64 ((j : Nat) : Int))).run Tryz.prog W = .ok (.agg (itv p)) W by
    intro j hj
    have z1 := HSS.out
    have z2 := HFZ.out
    have z3 := HUZ.out
    have z4 := HCZ.out
    have hj6 : j = 0 ∨ j = 1 ∨ j = 2 ∨ j = 3 ∨ j = 4 ∨ j = 5 := by omega
    rcases hj6 with rfl | rfl | rfl | rfl | rfl | rfl
    · exact ⟨(k, F), by show F.size ≤ 1000; omega, fun _ => by kernel_rfl⟩
    · exact ⟨(30, F), by show F.size ≤ 1000; omega, fun _ => by kernel_rfl⟩
    · exact ⟨(30, T), by show T.size ≤ 1000; omega, fun _ => by kernel_rfl⟩
    · exact ⟨(30, U), by show U.size ≤ 1000; omega, fun _ => by kernel_rfl⟩
    · exact ⟨(30, C), by show C.size ≤ 1000; omega, fun _ => by kernel_rfl⟩
    · exact ⟨(k, T), by show T.size ≤ 1000; omega, fun _ => by kernel_rfl⟩)
  obtain ⟨A6, hA6⟩ : ∃ A, A = (itv (k, F) ++ itv (30, F) ++ itv (30, T) ++ itv (30, U) ++ itv (30, C) ++ itv (k, T)) := ⟨_, rfl⟩
  rw [← hA6] at HIDX ⊢
  clear hA6
  go_wp2_with fail
  go_loopw [76] (fun i wr => ∃ j : Nat, j ≤ 6 ∧ i = .int .i64 (j : Int) ∧ Below w.heap.size w wr) (fun i _ => 6 - (intOf i).toNat)
  case atStart => exact ⟨0, by omega, rfl, HB_8.out⟩
  case round =>
    obtain ⟨j, hj, rfl, hW⟩ := hrel
    have HW0 := Lh hW
    clear hW
    by_cases hlt : j < 6
    · obtain ⟨⟨pk, ps⟩, hp2, hp3⟩ := HIDX.out j hlt
      have HPS := Lh (show ps.size ≤ 1000 from hp2)
      have HPI := Lh hp3
      obtain ⟨⟨z, c⟩, hz⟩ : ∃ q, q = iV pk ps := ⟨_, rfl⟩
      have HD := Lh (show dcV pk ps = .tuple #[.agg (ov z), .int .i64 c] by unfold dcV; rw [← hz])
      have hcc : (c != c) = false := by rw [bne_self_eq_false]
      clear hp2 hp3 hz
      go_upto_region 10 with (first
                | (refine xE rfl (.agg (itv (pk, ps))) (xIx 62 (.tmp 75) (.tmp 76) (.agg A6) (.int .i64 (j : Int)) _ HPI.out rfl) ?_)
                | (refine tV rfl rfl 11 rfl rfl _ rfl (pk, ps) (fun _ => by kernel_rfl) (fun _ => by kernel_rfl) ?_; intro V301 Xy hb hB hx; have Hy_301 := Lh hb; have Gy := Lh (Nat.le_trans HW0.out.size hx); have qC := Lh (HW0.out.trans (hB.mono HW0.out.size)); clear hb hB hx))
      go_wp2_with (refine ldI rfl _ rfl Xy (by kernel_rfl) (pk, ps) Hy_301.out ?_)
      refine (answer (gW pk ps (by have := HPS.out; omega) V301 (HT.out.below qC.out) (HH.out.below qC.out)) (v' := .tuple #[.agg (ov z), .int .i64 c]) HD.out).mono ?_
      rintro e U302 ⟨rfl, q⟩
      have uV := Lh (qC.out.trans (q.mono qC.out.size))
      have Hy_302 := Lh (Hy_301.out.below q Hy_301.out.lt)
      clear q
      go_upto_region 11 with (refine qE rfl rfl 12 rfl rfl _ rfl z (fun _ => by kernel_rfl) (fun _ => by kernel_rfl) ?_; intro V303 Xa hb hB hx; have Ha_303 := Lh hb; have Ga := Lh (Nat.le_trans uV.out.size hx); have yU := Lh (uV.out.trans (hB.mono uV.out.size)); have Hy_303 := Lh (Hy_302.out.below hB Hy_302.out.lt); clear hb hB hx)
      go_wp2_with (refine ldI rfl _ rfl Xy (by kernel_rfl) (pk, ps) Hy_303.out ?_)
      refine (answer (jM pk ps (by have := HPS.out; omega) V303) (v' := .tuple #[.agg (ov z), .int .i64 c]) HD.out).mono ?_
      rintro e U304 ⟨rfl, q⟩
      have uT := Lh (yU.out.trans (q.mono yU.out.size))
      have Hy_304 := Lh (Hy_303.out.below q Hy_303.out.lt)
      have Ha_304 := Lh (Ha_303.out.below q Ha_303.out.lt)
      clear q
      go_upto_region 12 with (refine qE rfl rfl 14 rfl rfl _ rfl z (fun _ => by kernel_rfl) (fun _ => by kernel_rfl) ?_; intro V305 Xb hb hB hx; have Hb_305 := Lh hb; have Gb := Lh (Nat.le_trans uT.out.size hx); have yA := Lh (uT.out.trans (hB.mono uT.out.size)); have Hy_305 := Lh (Hy_304.out.below hB Hy_304.out.lt); have Ha_305 := Lh (Ha_304.out.below hB Ha_304.out.lt); clear hb hB hx)
      go_wp2_with (first
                | (refine ldO rfl _ rfl Xa rfl z Ha_305.out ?_)
                | (refine ldO rfl _ rfl Xb rfl z Hb_305.out ?_)
                | (refine neOs rfl _ _ _ rfl z rfl rfl ?_))
      exact ⟨⟨j + 1, by omega, by go_num, yA.out⟩, by simp [intOf]; omega⟩
    · have hj6 : j = 6 := by omega
      subst hj6
      go_wp2_with fail
      refine (works_t wr (HT.out.below HW0.out) (HH.out.below HW0.out)).mono ?_
      rintro e U501 ⟨rfl, q⟩
      have HB_501 := Lh (HW0.out.trans (q.mono HW0.out.size))
      clear q
      go_wp2_with fail
      go_ret
      exact ⟨rfl, HB_501.out⟩
theorem lifted (os:Os) (started:os.Started) (H:Type) (enc:TypeId×Value→H):
  ReturnsInHanded {} Tryz.checked os 4 .any (fun w args=>(Rows.optReadsSpec.pre enc Tryz.prog Tryz.f4 [] false w args∧laidMetH Tryz.prog laid1 w)∧sizedMet enc Tryz.prog Tryz.f4 (OpenSpec.ofChange Rows.optReadsSpec) false w args)
   (Rows.optReadsSpec.post enc Tryz.prog Tryz.f4 false true false false):=by
 refine returnsInHanded_of_change_and (C:=Tryz.checked) (X:=fun w _=>laidMetH Tryz.prog laid1 w) (fun _ _ _ hh h=>h.of_heap hh) own started (by kernel_rfl) Tryz.func4
  (ChangeSpec.witness_shaped (enc:=enc) (C:=Tryz.checked) (os:=os) (X:=fun w _=>laidMetH Tryz.prog laid1 w) false (World.doorLaid Tryz.prog 400 os) #[.agg (itv (0,⟨#[]⟩)),.agg (drv ⟨0,0,0,false,false,false,0,0,0,0,List.replicate 24 0⟩),.agg #[.int .u8 0,.int .u8 0]] 8 rfl (World.shaped_of_RefB (by kernel_rfl) (by kernel_rfl)) (by kernel_rfl) (by kernel_rfl) (by kernel_rfl) (door_met os _)) ?_
 intro W base args ds gs before hval0 hW hcnd hsz0 hL _
 have hsz:(DataW.weightsEach Tryz.prog (Tryz.f4.params.toList++Rows.optReadsSpec.plain.varTypes Tryz.prog) (ds++gs)).all (·≤reachBytes)=true:=hsz0
 have ht:=table_of hL
 have hval:∀(j:Nat) t v,Tryz.f4.params[j]?=some t→args[j]?=some v→Value.okWide Tryz.prog W .any base t v:=hval0
 have hW':=hW
 obtain ⟨p,q,hA0,hV,rfl,hfz,hnd⟩:=hW
 have hA:DataW.TrodAll enc Tryz.prog W 0 (fun _=>true) true Tryz.f4.params.toList args.toList ds p:=hA0
 rw [Tryz.params4] at hA hval hsz
 obtain ⟨v0,vs0,d0,ds0,p0,q0,hargs,rfl,rfl,h0,r0⟩:=trodAll_cons hA
 obtain ⟨v1,vs1,d1,ds1,p1,q1,rfl,rfl,rfl,h1,r1⟩:=trodAll_cons r0
 obtain ⟨v2,vs2,d2,ds2,p2,q2,rfl,rfl,rfl,h2,r2⟩:=trodAll_cons r1
 obtain ⟨rfl,rfl,rfl⟩:=trodAll_nil r2
 obtain rfl:args=#[v0,v1,v2]:=by cases args;simp_all
 obtain ⟨rfl,rfl⟩:=trodVars_none hV
 have k0:=h0
 have lt0:∀x∈p0,x.block < W.heap.size:=by obtain ⟨m,hm⟩:=k0;exact DataW.trod_lt m _ _ _ hm
 obtain ⟨k,s,rfl, -⟩:=open_item (hval 0 53 v0 rfl rfl) h0
 have k1:=h1
 have lt1:∀x∈p1,x.block < W.heap.size:=by obtain ⟨m,hm⟩:=k1;exact DataW.trod_lt m _ _ _ hm
 obtain ⟨d,rfl,hd⟩:=open_draft (hval 1 48 v1 rfl rfl) h1
 have k2:=h2
 have lt2:∀x∈p2,x.block < W.heap.size:=by obtain ⟨m,hm⟩:=k2;exact DataW.trod_lt m _ _ _ hm
 obtain ⟨n0,n1,hn0,hn1,rfl⟩:=open_two (hval 2 60 v2 rfl rfl) h2
 clear hA0 hval0
 simp only [List.append_nil] at hW'
 refine (walk k s d hd n0 n1 hn0 hn1 W ht).mono fun e W' ⟨he,bel⟩=>?_
 subst he
 exact ⟨_,rfl,_,_,_,[],_,[],hW',trodAll_mk1 (shut_bool Tryz.underlying4 _),(trodAll_cons_mk (Below.trod laidOut (by kernel_rfl) (of_decide_eq_true (by kernel_rfl)) k0 bel lt0) (trodAll_cons_mk (Below.trod laidOut (by kernel_rfl) (of_decide_eq_true (by kernel_rfl)) k1 bel lt1) (trodAll_cons_mk (Below.trod laidOut (by kernel_rfl) (of_decide_eq_true (by kernel_rfl)) k2 bel lt2) trodAll_mk0))),rfl,bel.frame _,fun h=>by cases h⟩
theorem over:Rows.OptReadsSaid:=
 OpenClaim.holds_of_wide 4 Tryz.f4 rfl rfl rfl rfl rfl rfl rfl ⟨rfl,rfl,rfl,rfl,rfl⟩ rfl rfl rfl rfl rfl (by kernel_rfl) Tryz.func4 (by kernel_rfl)
  (of_decide_eq_true (by kernel_rfl)) (by unfold Func.isWrapper;first | (rw [if_pos (by decide+kernel)];kernel_rfl) | (rw [if_neg (by decide+kernel)];exact ⟨rfl,rfl⟩))
  (fun os started H enc _=>lifted os started H enc)
theorem proved:Rows.OptReadsCardSaid:=
 Claim7.holds_tied_plain_at .later [] [.handle,.data] true _ true
  over (fun _ h=>by cases h) (by kernel_rfl) (fun _ h=>by cases h) optReads_row_tie rfl ⟨rfl,rfl⟩ (by kernel_rfl) rfl
  (fun f fn hf hfn=>by
   obtain rfl:f=4:=Option.some.inj ((show Tryz.prog.funcNamed "plait/plaitlaw14.OptReads"=some 4 by kernel_rfl).symm.trans hf) |>.symm
   obtain rfl:fn=Tryz.f4:=(Option.some.inj (Tryz.func4.symm.trans hfn)).symm
   exact ⟨by kernel_rfl,fun j t ht=>by
    rw [Tryz.params4] at ht
    have hm:t∈([53,48,60]:List TypeId):=by simpa using Array.mem_of_getElem? ht
    have hall:(([53,48,60]:List TypeId).all fun u=>!Tryz.prog.wantsStandIn u)=true:=by kernel_rfl
    exact (show Tryz.prog.wantsStandIn t=false by simpa using List.all_eq_true.1 hall t hm)⟩)
  (by kernel_rfl)
#print axioms proved
end Go.Proofs.YtnlhhjhidkjlbaaGreatDoor.L14.optReads
