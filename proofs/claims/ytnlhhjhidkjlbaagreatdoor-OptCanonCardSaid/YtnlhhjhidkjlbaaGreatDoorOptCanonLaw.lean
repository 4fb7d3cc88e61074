/-
  What any bytes are read as may be; laid again it is as long, has no bit that was not there, and is read as the same (statement OptCanon, promises P14.2, P14.4), of all texts, and drafts, with one byte otherwise, without condition but the variables' own initial values, which the card ties to the program's text.
-/
import Derived.Test.YtnlhhjhidkjlbaaGreatDoorRedBase
import Derived.Test.YtnlhhjhidkjlbaaGreatDoorRedOpt1
set_option maxHeartbeats 4000000
set_option maxRecDepth 100000
set_option linter.unusedVariables false
set_option linter.unusedSimpArgs false
namespace Go.Proofs.YtnlhhjhidkjlbaaGreatDoor.L14.optCanon
open Go Go.ChangeShapes Go.WideShapes Go.ChangeAt Go.RowKit
theorem walk (s : ByteArray) (d : Dr) (hd : d.Ok) (n0 n1 : Nat) (hn0 : n0 ≤ 255) (hn1 : n1 ≤ 255) (w : World) (ht : L10.Tbl w ∧ Hnd w) :
    Calls Tryz.prog 7 #[.string s, .agg (drv d), .agg #[.int .u8 (n0 : Int), .int .u8 (n1 : Int)]] w (Rt w (.bool true)) := by
  have HT := Lh ht.1
  have HH := Lh ht.2
  have HLD := Lh hd.bs
  have HN0 := Lh hn0
  obtain ⟨m1, hv⟩ : ∃ v : UInt8, v.toNat = n1 := ⟨UInt8.ofNat n1, by rw [UInt8.toNat_ofNat']; omega⟩
  have HM1 := Lh hv
  obtain ⟨x, hx⟩ := eqx d.op
  have HXO := Lh (show x.Ok by rw [hx]; exact (d.op_may hd).1)
  have HXM := Lh (show iV x by rw [hx]; exact (d.op_may hd).2)
  have HCX := Lh (show ∀ W, Calls Tryz.prog 11 #[.agg (drv d)] W (Rt W (.agg (ov x))) from fun W => by rw [hx]; exact Opt_any d hd W)
  obtain ⟨T, hT⟩ := eqx x.body.1
  have HSS := Lh (show 1 ≤ T.size ∧ T.size ≤ 38 by rw [hT]; exact qG x HXM.out.1)
  have HES := Lh (show dH x = .tuple #[.agg (itv (30, T)), .int .i64 0] by unfold dH; rw [rV HXM.out, hT])
  obtain ⟨m0, F, hF, eF0, mF0, lF0, zF⟩ := front60 s
  have HFZ := Lh (show F.size ≤ 60 by rw [hF]; exact c60_size s)
  have EF := Lh eF0
  have MF := Lh mF0
  have LF := Lh lF0
  clear ht hd hx hT hn0 hn1 hv hF eF0 mF0 lF0 zF
  go_enter Tryz.func7, Tryz.ntmps7
  go_wp2_with (first
        | (refine aY rfl 48 _ rfl (drv d) rfl ?_; intro V1 Xd hX hU; have hB := (boxed hX hU).2; have Hd_1 := Lh (boxed hX hU).1; have zH := Lh (hB); clear hX hU hB)
        | (refine aY rfl 60 _ rfl #[.int .u8 (n0 : Int), .int .u8 (n1 : Int)] rfl ?_; intro V2 Xn hX hU; have hB := (boxed hX hU).2; have Hn_2 := Lh (boxed hX hU).1; have yI := Lh (zH.out.trans (hB.mono zH.out.size)); have Hd_2 := Lh (Hd_1.out.below hB Hd_1.out.lt); clear hX hU hB))
  refine (works_t V2 (HT.out.below yI.out) (HH.out.below yI.out)).mono ?_
  rintro e U3 ⟨rfl, q⟩
  have HB_3 := Lh (yI.out.trans (q.mono yI.out.size))
  have Hd_3 := Lh (Hd_2.out.below q Hd_2.out.lt)
  have Hn_3 := Lh (Hn_2.out.below q Hn_2.out.lt)
  clear q
  go_wp2_with (refine wpList_load_row rfl 48 _ rfl Xd rfl 48 (drv d) (0, 0) _ ?_ Tryz.underlying48 rfl (qM d HLD.out) ?_; exact Hd_3.out)
  refine (HCX.out U3).mono ?_
  rintro e U4 ⟨rfl, q⟩
  have yD := Lh (HB_3.out.trans (q.mono HB_3.out.size))
  have Hd_4 := Lh (Hd_3.out.below q Hd_3.out.lt)
  have Hn_4 := Lh (Hn_3.out.below q Hn_3.out.lt)
  clear q
  go_wp2_with fail
  refine (answer (dN x HXO.out U4 (HT.out.below yD.out) (HH.out.below yD.out)) (v' := .tuple #[.agg (itv (30, T)), .int .i64 0]) HES.out).mono ?_
  rintro e U5 ⟨rfl, q⟩
  have HB_5 := Lh (yD.out.trans (q.mono yD.out.size))
  have Hn_5 := Lh (Hn_4.out.below q Hn_4.out.lt)
  clear q
  go_upto_region 4 with (refine uN rfl rfl 7 rfl rfl _ rfl (30, T) (fun _ => by kernel_rfl) (fun _ => by kernel_rfl) ?_; intro V6 Xi hb hB hx; have Hi_6 := Lh hb; have Gi := Lh (Nat.le_trans HB_5.out.size hx); have zA := Lh (HB_5.out.trans (hB.mono HB_5.out.size)); have Hn_6 := Lh (Hn_5.out.below hB Hn_5.out.lt); clear hb hB hx)
  have ci := (Hi_6.out.cell 1).trans (show _ = some (Value.string T) by kernel_rfl)
  have e0 : ((T.size : Int) == 0) = false := by rw [beq_eq_false_iff_ne]; have := HSS.out; omega
  go_upto_region 6 with fail
  obtain ⟨g, hg⟩ := eqx V6.heap.size
  obtain ⟨cap, VB, hcv, hbt, hbl, hvs⟩ := text_bytes V6 T
  have HG := Lh hg
  have Ln := Lh (show Xn < g by rw [hg]; exact Hn_6.out.lt)
  have LW := Lh (show w.heap.size ≤ g by rw [hg]; exact zA.out.size)
  have HB_7 := Lh (zA.out.trans (hbl.mono zA.out.size))
  have Hn_7 := Lh (Hn_6.out.below hbl Hn_6.out.lt)
  rw [← hg] at hbt hvs
  have HBT := Lh hbt
  have HGV := Lh (show g < VB.heap.size by omega)
  clear hbt hbl hvs hg
  go_upto_region 7 with fail
  rw [← HG.out]
  clear hcv
  obtain ⟨r, hr⟩ : ∃ r, n0 % T.size = r := ⟨_, rfl⟩
  have hrl : r < T.size := by rw [← hr]; exact Nat.mod_lt _ (by have := HSS.out; omega)
  have HRM := Lh hr
  have HRL := Lh hrl
  obtain ⟨l, hl⟩ := eqx T.data.toList
  have HLL := Lh (show l.length = T.size by rw [hl]; exact bK T)
  rw [← hl] at HBT
  clear hr hrl hl
  obtain ⟨y0, hy0⟩ : ∃ y : UInt8, y = l[r]'(by rw [HLL.out]; exact HRL.out) := ⟨_, rfl⟩
  obtain ⟨v, hv⟩ : ∃ v : UInt8, v = y0 ^^^ m1 := ⟨_, rfl⟩
  have HV := Lh (rfl : v.toNat = v.toNat)
  have HXR := Lh hv
  have HY0 := Lh hy0
  clear hv hy0
  have B0 : Below VB.heap.size VB VB.drew := (Below.refl _ VB).drew
  refine jD 13 (fun W => Below VB.heap.size VB W) (by kernel_rfl) (n := 14) rfl ?_
  obtain ⟨W0, hW0⟩ := eqx VB.drew
  rw [← hW0] at B0 ⊢
  clear hW0
  refine wkF 0 (.slice (some ⟨g, 0, none⟩) T.size cap) rfl B0 (wkF 1 (.pointer (some ⟨Xn, 0, none⟩)) rfl B0 (wkG 2 (.int .u8 (n0 : Int)) rfl B0 (fun W q => xLd 5 (.tmp 39) ⟨Xn, 0, none⟩ (((Hn_7.out.below q Hn_7.out.lt).cell 0).trans rfl)) (wkG 3 (.int .i64 (n0 : Int)) rfl B0 (fun W _ => aV (v := .int .u8 (n0 : Int)) 5 3 (.tmp 40) (by kernel_rfl) (by kernel_rfl) (conv_b n0 HN0.out W)) (wkF 4 (.slice (some ⟨g, 0, none⟩) T.size cap) rfl B0 (wkF 5 (.int .i64 (T.size : Int)) rfl B0 (wkG 6 (.int .i64 (r : Int)) rfl B0 (fun W _ => ex_rem 3 3 (.tmp 41) (.tmp 43) n0 T.size r (by have := HSS.out; omega) (by have := HSS.out; omega) HRM.out) (wkG 7 (.pointer (some ⟨g, r, none⟩)) rfl B0 (fun W _ => ex_index (t := 61) (x := .tmp 38) (y := .tmp 44) (n := .slice (some ⟨g, 0, none⟩) T.size cap) (i := .int .i64 (r : Int)) (by kernel_rfl) (by kernel_rfl) (by kernel_rfl) (place_b g r T.size cap HRL.out (by have := HSS.out; omega) W)) (wkG 8 (.int .u8 (y0.toNat : Int)) rfl B0 (fun W q => xLd 5 (.tmp 45) ⟨g, r, none⟩ (by rw [HY0.out]; exact (HBT.out.below q HGV.out).cell r (by rw [HLL.out]; exact HRL.out))) (wkF 9 (.pointer (some ⟨Xn, 1, none⟩)) rfl B0 ?_)))))))))
  refine wkG 10 (.int .u8 (m1.toNat : Int)) rfl B0 (fun W q => xLd 5 (.tmp 47) ⟨Xn, 1, none⟩ (((Hn_7.out.below q Hn_7.out.lt).cell 1).trans (by first | rfl | (rw [HM1.out]; rfl)))) (wkG 11 (.int .u8 (v.toNat : Int)) rfl B0 (fun W _ => ex_xor8 5 5 (.tmp 46) (.tmp 48) y0 m1 v HXR.out) (wkG 12 (.pointer (some ⟨g, r, none⟩)) rfl B0 (fun W _ => ex_index (t := 61) (x := .tmp 38) (y := .tmp 44) (n := .slice (some ⟨g, 0, none⟩) T.size cap) (i := .int .i64 (r : Int)) (by kernel_rfl) (by kernel_rfl) (by kernel_rfl) (place_b g r T.size cap HRL.out (by have := HSS.out; omega) W)) ?_))
  refine bC 13 (by kernel_rfl) (mJ 13 rfl (by kernel_rfl) (eX 5 (.tmp 50) (.tmp 49) (by kernel_rfl) ⟨g, r, none⟩ (.int .u8 (v.toNat : Int)) (by kernel_rfl) (by kernel_rfl) (store_b _ g r _ _ ((HBT.out.below B0 HGV.out).cell r (by rw [HLL.out]; exact HRL.out)) ((HBT.out.below B0 HGV.out).frozen r (by rw [HLL.out]; exact HRL.out)))) (by kernel_rfl) ?_)
  refine dB ⟨List.toArray (Value.string s :: Value.agg (drv d) :: Value.agg #[.int .u8 (n0 : Int), .int .u8 (n1 : Int)] :: undef :: Value.pointer (some ⟨Xd, 0, none⟩) :: Value.pointer (some ⟨Xn, 0, none⟩) :: Value.bool false :: Value.pointer (some ⟨Xi, 0, none⟩) :: Value.int .i64 0 :: Value.slice (some ⟨g, 0, none⟩) T.size cap :: undef :: undef :: undef :: undef :: undef :: undef :: undef :: undef :: undef :: Value.bool true :: Value.bool false :: Value.tuple #[.agg (itv (30, T)), .int .i64 0] :: Value.agg (drv d) :: Value.agg (ov x) :: Value.tuple #[.agg (itv (30, T)), .int .i64 0] :: Value.agg (itv (30, T)) :: Value.int .i64 0 :: Value.int .i64 0 :: Value.bool false :: Value.bool false :: Value.pointer (some ⟨Xi, 1, none⟩) :: Value.string T :: Value.int .i64 (T.size : Int) :: Value.bool false :: Value.bool false :: Value.pointer (some ⟨Xi, 1, none⟩) :: Value.string T :: Value.slice (some ⟨g, 0, none⟩) T.size cap :: Value.slice (some ⟨g, 0, none⟩) T.size cap :: Value.pointer (some ⟨Xn, 0, none⟩) :: Value.int .u8 (n0 : Int) :: Value.int .i64 (n0 : Int) :: Value.slice (some ⟨g, 0, none⟩) T.size cap :: Value.int .i64 (T.size : Int) :: Value.int .i64 (r : Int) :: Value.pointer (some ⟨g, r, none⟩) :: Value.int .u8 (y0.toNat : Int) :: Value.pointer (some ⟨Xn, 1, none⟩) :: Value.int .u8 (m1.toNat : Int) :: Value.int .u8 (v.toNat : Int) :: Value.pointer (some ⟨g, r, none⟩) :: undef :: undef :: undef :: undef :: undef :: undef :: undef :: undef :: undef :: undef :: undef :: undef :: undef :: undef :: undef :: undef :: undef :: undef :: undef :: undef :: undef :: undef :: undef :: undef :: undef :: undef :: undef :: undef :: undef :: undef :: undef :: undef :: undef :: undef :: undef :: undef :: undef :: undef :: undef :: undef :: undef :: undef :: undef :: undef :: undef :: undef :: undef :: undef :: undef :: undef :: undef :: undef :: undef :: undef :: undef :: undef :: undef :: undef :: undef :: undef :: undef :: undef :: undef :: undef :: undef :: undef :: undef :: undef :: undef :: undef :: undef :: undef :: undef :: undef :: undef :: undef :: undef :: undef :: undef :: []), []⟩ (by kernel_rfl) (by kernel_rfl) ?_
  obtain ⟨Y, hY⟩ := eqx (W0.setCell ⟨g, r, none⟩ (.int .u8 (v.toNat : Int)))
  rw [← hY]
  obtain ⟨L2, hL2⟩ := eqx (l.set r v)
  have HSZ2 := Lh (show L2.length = T.size by rw [hL2, List.length_set]; exact HLL.out)
  have HL2 := Lh hL2
  have HBTY := Lh (show Bts Y g L2 by rw [hY, hL2, ← HV.out]; exact (HBT.out.below B0 HGV.out).fO r v (by rw [HLL.out]; exact HRL.out))
  have hVY : Below g VB Y := by rw [hY]; exact (B0.mono (Nat.le_of_lt HGV.out)).setCell (p := ⟨g, r, none⟩) (Nat.le_refl g) _
  have Nn_Y := Lh (Hn_7.out.below hVY Ln.out)
  have HB_Y := Lh (HB_7.out.trans (hVY.mono LW.out))
  obtain ⟨U, hU⟩ := eqx (txt L2)
  have HU := Lh hU
  have HUZ := Lh (show U.size ≤ 38 by rw [hU, aH, HSZ2.out]; exact HSS.out.2)
  clear hL2 hVY hU hY B0 HBT
  go_upto_region 8 with fail
  refine dL (n := 9) rfl ?_
  intro Z0 B0
  refine stF 0 (.string s) rfl B0 (stF 1 (.string s) rfl B0 (stF 2 (.int .i64 (s.size : Int)) rfl B0 (stG 3 (.int .i64 (m0 : Int)) rfl B0 (fun W _ => ex_min (.tmp 53) (.const (.int .i64 60)) #[3, 3] (s.size : Int) 60 (m0 : Int) MF.out) (stG 4 (.string F) rfl B0 (fun W _ => iU (v := .string s) (hv := .int .i64 (m0 : Int)) 9 (.tmp 51) (.tmp 54) (by kernel_rfl) (by kernel_rfl) (by kernel_rfl) (by rw [← EF.out]; exact str_front s m0 (by have := LF.out; omega) W)) (stF 5 (.slice (some ⟨g, 0, none⟩) T.size cap) rfl B0 (stG 6 (.string U) rfl B0 (fun W q => aV (v := .slice (some ⟨g, 0, none⟩) T.size cap) 61 9 (.tmp 56) (by kernel_rfl) (by kernel_rfl) (by rw [HU.out]; exact bytes_text W g cap T.size L2 (HBTY.out.below q HBTY.out.1) HSZ2.out.symm)) (stF 7 (.agg #[.string F, .string U]) rfl B0 (stF 8 (.int .i64 0) rfl B0 ?_))))))))
  refine bJ ⟨List.toArray (Value.string s :: Value.agg (drv d) :: Value.agg #[.int .u8 (n0 : Int), .int .u8 (n1 : Int)] :: undef :: Value.pointer (some ⟨Xd, 0, none⟩) :: Value.pointer (some ⟨Xn, 0, none⟩) :: Value.bool false :: Value.pointer (some ⟨Xi, 0, none⟩) :: Value.int .i64 0 :: Value.slice (some ⟨g, 0, none⟩) T.size cap :: undef :: undef :: undef :: undef :: undef :: undef :: undef :: undef :: undef :: Value.bool true :: Value.bool false :: Value.tuple #[.agg (itv (30, T)), .int .i64 0] :: Value.agg (drv d) :: Value.agg (ov x) :: Value.tuple #[.agg (itv (30, T)), .int .i64 0] :: Value.agg (itv (30, T)) :: Value.int .i64 0 :: Value.int .i64 0 :: Value.bool false :: Value.bool false :: Value.pointer (some ⟨Xi, 1, none⟩) :: Value.string T :: Value.int .i64 (T.size : Int) :: Value.bool false :: Value.bool false :: Value.pointer (some ⟨Xi, 1, none⟩) :: Value.string T :: Value.slice (some ⟨g, 0, none⟩) T.size cap :: Value.slice (some ⟨g, 0, none⟩) T.size cap :: Value.pointer (some ⟨Xn, 0, none⟩) :: Value.int .u8 (n0 : Int) :: Value.int .i64 (n0 : Int) :: Value.slice (some ⟨g, 0, none⟩) T.size cap :: Value.int .i64 (T.size : Int) :: Value.int .i64 (r : Int) :: Value.pointer (some ⟨g, r, none⟩) :: Value.int .u8 (y0.toNat : Int) :: Value.pointer (some ⟨Xn, 1, none⟩) :: Value.int .u8 (m1.toNat : Int) :: Value.int .u8 (v.toNat : Int) :: Value.pointer (some ⟨g, r, none⟩) :: Value.string s :: Value.string s :: Value.int .i64 (s.size : Int) :: Value.int .i64 (m0 : Int) :: Value.string F :: Value.slice (some ⟨g, 0, none⟩) T.size cap :: Value.string U :: Value.agg #[.string F, .string U] :: Value.int .i64 0 :: undef :: undef :: undef :: undef :: undef :: undef :: undef :: undef :: undef :: undef :: undef :: undef :: undef :: undef :: undef :: undef :: undef :: undef :: undef :: undef :: undef :: undef :: undef :: undef :: undef :: undef :: undef :: undef :: undef :: undef :: undef :: undef :: undef :: undef :: undef :: undef :: undef :: undef :: undef :: undef :: undef :: undef :: undef :: undef :: undef :: undef :: undef :: undef :: undef :: undef :: undef :: undef :: undef :: undef :: undef :: undef :: undef :: undef :: undef :: undef :: undef :: undef :: undef :: undef :: undef :: undef :: undef :: undef :: undef :: undef :: []), []⟩ (by kernel_rfl) (by kernel_rfl) ?_
  have HB_8 := Lh (HB_Y.out.trans (B0.mono HB_Y.out.size))
  clear B0
  have HIDX := Lh (show ∀ j < 2, ∃ t : ByteArray, t.size ≤ 60 ∧ ∀ W, (Instr.index 79 (.agg #[.string F, .string U]) (.int .i64 ((j : Nat) : Int))).run Tryz.prog W = .ok (.string t) W by
    intro j hj
    have z2 := HFZ.out
    have z3 := HUZ.out
    have hj2 : j = 0 ∨ j = 1 := by omega
    rcases hj2 with rfl | rfl
    · exact ⟨F, z2, fun _ => by kernel_rfl⟩
    · exact ⟨U, by omega, fun _ => by kernel_rfl⟩)
  obtain ⟨A2, hA2⟩ : ∃ A : Array Value, A = #[.string F, .string U] := ⟨_, rfl⟩
  rw [← hA2] at HIDX ⊢
  clear hA2
  go_wp2_with fail
  go_loopw [59] (fun i wr => ∃ j : Nat, j ≤ 2 ∧ i = .int .i64 (j : Int) ∧ Below w.heap.size w wr) (fun i _ => 2 - (intOf i).toNat)
  case atStart => exact ⟨0, by omega, rfl, HB_8.out⟩
  case round =>
    obtain ⟨j, hj, rfl, hW⟩ := hrel
    have HW0 := Lh hW
    clear hW
    by_cases hlt : j < 2
    · obtain ⟨t, htz, hp3⟩ := HIDX.out j hlt
      have HTZ := Lh htz
      have HPI := Lh hp3
      obtain ⟨⟨z, c⟩, hz⟩ : ∃ q, q = iD 30 t := ⟨_, rfl⟩
      have HZ := Lh hz.symm
      have HD := Lh (show dcV 30 t = .tuple #[.agg (ov z), .int .i64 c] by unfold dcV; rw [← hz])
      clear htz hp3 hz
      go_upto_region 11 with (refine vH rfl (.string t) (xIx 79 (.tmp 58) (.tmp 59) (.agg A2) (.int .i64 (j : Int)) _ HPI.out rfl) ?_)
      go_wp2_with (refine buildI rfl _ rfl (30, t) (by intro w; kernel_rfl) ?_)
      refine (answer (dX 30 t (by have := HTZ.out; omega) wr (HT.out.below HW0.out) (HH.out.below HW0.out)) (v' := .tuple #[.agg (ov z), .int .i64 c]) HD.out).mono ?_
      rintro e U301 ⟨rfl, q⟩
      have yY := Lh (HW0.out.trans (q.mono HW0.out.size))
      clear q
      go_upto_region 12 with (refine rC rfl rfl 12 rfl rfl _ rfl z (fun _ => by kernel_rfl) (fun _ => by kernel_rfl) ?_; intro V302 Xa hb hB hx; have tK := Lh hb; have Ga := Lh (Nat.le_trans yY.out.size hx); have nM := Lh (yY.out.trans (hB.mono yY.out.size)); clear hb hB hx)
      by_cases hc : c = 0
      · skip
        subst hc
        have hag := decO_again 30 t z HZ.out
        have HZM := Lh (show iV z from ⟨hag.2.2.2.1, hag.2.2.1⟩)
        have HZO := Lh hag.2.1
        obtain ⟨U2, hU2⟩ : ∃ U, U = z.body.1 := ⟨_, rfl⟩
        have HAG := Lh (show lH t U2 by rw [hU2]; exact hag.2.2.2.2)
        have HUS := Lh (show U2.size ≤ 38 by rw [hU2]; exact (qG z hag.2.2.2.1).2)
        have HEZ := Lh (show dH z = .tuple #[.agg (itv (30, U2)), .int .i64 0] by unfold dH; rw [rV HZM.out, hU2])
        have HDZ := Lh (show dcV 30 U2 = .tuple #[.agg (ov z), .int .i64 0] by unfold dcV; rw [hU2, may_dec HZO.out HZM.out])
        clear hag hU2
        go_wp2_with (refine ldO rfl _ rfl Xa (by kernel_rfl) z tK.out ?_)
        refine (answer (dN z HZO.out V302 (HT.out.below nM.out) (HH.out.below nM.out)) (v' := .tuple #[.agg (itv (30, U2)), .int .i64 0]) HEZ.out).mono ?_
        rintro e U303 ⟨rfl, q⟩
        have oI := Lh (nM.out.trans (q.mono nM.out.size))
        have vZ := Lh (tK.out.below q tK.out.lt)
        clear q
        go_upto_region 16 with (refine uN rfl rfl 14 rfl rfl _ rfl (30, U2) (fun _ => by kernel_rfl) (fun _ => by kernel_rfl) ?_; intro V304 Xe hb hB hx; have zL := Lh hb; have Ge := Lh (Nat.le_trans oI.out.size hx); have uC := Lh (oI.out.trans (hB.mono oI.out.size)); have yS := Lh (vZ.out.below hB vZ.out.lt); clear hb hB hx)
        go_wp2_with (refine ldI rfl _ rfl Xe (by kernel_rfl) (30, U2) zL.out ?_)
        refine (answer (dX 30 U2 (by have := HUS.out; omega) V304 (HT.out.below uC.out) (HH.out.below uC.out)) (v' := .tuple #[.agg (ov z), .int .i64 0]) HDZ.out).mono ?_
        rintro e U305 ⟨rfl, q⟩
        have yO := Lh (uC.out.trans (q.mono uC.out.size))
        have Ha_305 := Lh (yS.out.below q yS.out.lt)
        have He_305 := Lh (zL.out.below q zL.out.lt)
        clear q
        go_upto_region 17 with (refine rC rfl rfl 16 rfl rfl _ rfl z (fun _ => by kernel_rfl) (fun _ => by kernel_rfl) ?_; intro V306 Xk hb hB hx; have Hk_306 := Lh hb; have Gk := Lh (Nat.le_trans yO.out.size hx); have yB := Lh (yO.out.trans (hB.mono yO.out.size)); have zM := Lh (Ha_305.out.below hB Ha_305.out.lt); have He_306 := Lh (He_305.out.below hB He_305.out.lt); clear hb hB hx)
        go_wp2_with (refine ldO rfl _ rfl Xa (by kernel_rfl) z zM.out ?_)
        refine (answer (xN z HZO.out V306 (HT.out.below yB.out) (HH.out.below yB.out)) (v' := .bool true) (by rw [decide_eq_true HZM.out])).mono ?_
        rintro e U307 ⟨rfl, q⟩
        have HB_307 := Lh (yB.out.trans (q.mono yB.out.size))
        have Ha_307 := Lh (zM.out.below q zM.out.lt)
        have yZ := Lh (He_306.out.below q He_306.out.lt)
        have Hk_307 := Lh (Hk_306.out.below q Hk_306.out.lt)
        clear q
        have ce := (yZ.out.cell 1).trans (show _ = some (Value.string U2) by kernel_rfl)
        have hue : ((U2.size : Int) != (t.size : Int)) = false := by rw [HAG.out.size, bne_self_eq_false]
        go_wp2_with (first
                    | (refine ldO rfl _ rfl Xk rfl z Hk_307.out ?_)
                    | (refine ldO rfl _ rfl Xa rfl z Ha_307.out ?_)
                    | (refine neOs rfl _ _ _ rfl z rfl rfl ?_))
        clear ce hue
        go_loopw [18] (fun i wi => ∃ q : Nat, q ≤ t.size ∧ i = .int .i64 (q : Int) ∧ Below U307.heap.size U307 wi) (fun i _ => t.size - (intOf i).toNat)
        case atStart => exact ⟨0, Nat.zero_le _, rfl, Below.refl _ _⟩
        case round =>
          obtain ⟨q, hq, rfl, hW2⟩ := hrel
          have HW2 := Lh hW2
          clear hW2
          by_cases hlt2 : q < t.size
          · skip
            obtain ⟨b1, hb1, hi1⟩ := byte_of U2 q (by rw [HAG.out.size]; exact hlt2)
            obtain ⟨b2, hb2, hi2⟩ := byte_of t q hlt2
            have HI1 := Lh hi1
            have HI2 := Lh hi2
            have HBB := Lh (show b1.toNat &&& b2.toNat = b1.toNat by rw [← hb1, ← hb2]; exact HAG.out.bits q hlt2)
            have q4 : (q : Int) < (t.size : Int) := by omega
            have q60 : t.size ≤ 60 := HTZ.out
            have HE2 := Lh (yZ.out.below HW2.out yZ.out.lt)
            clear hb1 hb2 hi1 hi2
            go_upto_region 22 with fail
            refine dL (n := 9) rfl ?_
            intro Z1 B1
            refine stF 0 (.pointer (some ⟨Xe, 1, none⟩)) rfl B1 (stG 1 (.string U2) rfl B1 (fun W p => xLd 9 (.tmp 120) ⟨Xe, 1, none⟩ (((HE2.out.below p HE2.out.lt).cell 1).trans rfl)) (stF 2 (.int .i64 (q : Int)) rfl B1 (stG 3 (.int .u8 (b1.toNat : Int)) rfl B1 (fun W _ => xIx 9 (.tmp 121) (.tmp 122) (.string U2) (.int .i64 (q : Int)) _ HI1.out) (stF 4 (.string t) rfl B1 (stF 5 (.int .i64 (q : Int)) rfl B1 (stG 6 (.int .u8 (b2.toNat : Int)) rfl B1 (fun W _ => xIx 9 (.tmp 124) (.tmp 125) (.string t) (.int .i64 (q : Int)) _ HI2.out) (stG 7 (.int .u8 0) rfl B1 (fun W _ => ex_none8 5 5 (.tmp 123) (.tmp 126) b1 b2 HBB.out) (stF 8 (.bool false) rfl B1 ?_))))))))
            refine bJ ⟨List.toArray (Value.string s :: Value.agg (drv d) :: Value.agg #[.int .u8 (n0 : Int), .int .u8 (n1 : Int)] :: undef :: Value.pointer (some ⟨Xd, 0, none⟩) :: Value.pointer (some ⟨Xn, 0, none⟩) :: u6 :: Value.pointer (some ⟨Xi, 0, none⟩) :: Value.int .i64 0 :: Value.slice (some ⟨g, 0, none⟩) T.size cap :: undef :: Value.string t :: Value.pointer (some ⟨Xa, 0, none⟩) :: Value.int .i64 0 :: Value.pointer (some ⟨Xe, 0, none⟩) :: Value.int .i64 0 :: Value.pointer (some ⟨Xk, 0, none⟩) :: Value.int .i64 0 :: Value.int .i64 (q : Int) :: Value.bool true :: Value.bool false :: Value.tuple #[.agg (itv (30, T)), .int .i64 0] :: Value.agg (drv d) :: Value.agg (ov x) :: Value.tuple #[.agg (itv (30, T)), .int .i64 0] :: Value.agg (itv (30, T)) :: Value.int .i64 0 :: Value.int .i64 0 :: Value.bool false :: Value.bool false :: Value.pointer (some ⟨Xi, 1, none⟩) :: Value.string T :: Value.int .i64 (T.size : Int) :: Value.bool false :: Value.bool false :: Value.pointer (some ⟨Xi, 1, none⟩) :: Value.string T :: Value.slice (some ⟨g, 0, none⟩) T.size cap :: Value.slice (some ⟨g, 0, none⟩) T.size cap :: Value.pointer (some ⟨Xn, 0, none⟩) :: Value.int .u8 (n0 : Int) :: Value.int .i64 (n0 : Int) :: Value.slice (some ⟨g, 0, none⟩) T.size cap :: Value.int .i64 (T.size : Int) :: Value.int .i64 (r : Int) :: Value.pointer (some ⟨g, r, none⟩) :: Value.int .u8 (y0.toNat : Int) :: Value.pointer (some ⟨Xn, 1, none⟩) :: Value.int .u8 (m1.toNat : Int) :: Value.int .u8 (v.toNat : Int) :: Value.pointer (some ⟨g, r, none⟩) :: Value.string s :: Value.string s :: Value.int .i64 (s.size : Int) :: Value.int .i64 (m0 : Int) :: Value.string F :: Value.slice (some ⟨g, 0, none⟩) T.size cap :: Value.string U :: Value.agg A2 :: Value.int .i64 (j : Int) :: Value.bool true :: Value.string t :: Value.tuple #[.agg (ov z), .int .i64 0] :: Value.string t :: Value.agg (itv (30, t)) :: Value.tuple #[.agg (ov z), .int .i64 0] :: Value.agg (ov z) :: Value.int .i64 0 :: Value.int .i64 0 :: Value.bool false :: u70 :: u71 :: u72 :: u73 :: u74 :: u75 :: u76 :: u77 :: u78 :: u79 :: Value.tuple #[.agg (itv (30, U2)), .int .i64 0] :: Value.agg (ov z) :: Value.tuple #[.agg (itv (30, U2)), .int .i64 0] :: Value.agg (itv (30, U2)) :: Value.int .i64 0 :: Value.tuple #[.agg (ov z), .int .i64 0] :: Value.agg (itv (30, U2)) :: Value.tuple #[.agg (ov z), .int .i64 0] :: Value.agg (ov z) :: Value.int .i64 0 :: Value.agg (ov z) :: Value.bool true :: Value.bool false :: Value.bool false :: Value.int .i64 0 :: Value.bool false :: Value.bool false :: Value.bool false :: Value.int .i64 0 :: Value.bool false :: Value.bool false :: Value.bool false :: Value.agg (ov z) :: Value.agg (ov z) :: Value.bool false :: Value.bool false :: Value.bool false :: Value.pointer (some ⟨Xe, 1, none⟩) :: Value.string U2 :: Value.int .i64 (U2.size : Int) :: Value.string t :: Value.int .i64 (t.size : Int) :: Value.bool false :: Value.bool false :: Value.int .i64 (q : Int) :: Value.string t :: Value.int .i64 (t.size : Int) :: Value.bool true :: u118 :: u119 :: Value.pointer (some ⟨Xe, 1, none⟩) :: Value.string U2 :: Value.int .i64 (q : Int) :: Value.int .u8 (b1.toNat : Int) :: Value.string t :: Value.int .i64 (q : Int) :: Value.int .u8 (b2.toNat : Int) :: Value.int .u8 0 :: Value.bool false :: u129 :: []), []⟩ (by kernel_rfl) (by kernel_rfl) ?_
            have HW3 := Lh (HW2.out.trans (B1.mono HW2.out.size))
            clear B1 HW2 HE2
            go_wp2_with fail
            go_roundw
            case rel => exact ⟨q + 1, by omega, by go_num, HW3.out⟩
            case measure => simp [intOf]; omega
          · skip
            have hq2 : q = t.size := by omega
            subst hq2
            have HBZ := Lh (HB_307.out.trans (HW2.out.mono HB_307.out.size))
            go_wp2_with fail
            exact ⟨⟨j + 1, by omega, by go_num, HBZ.out⟩, by simp [intOf]; omega⟩
      · skip
        have hz0 : z = .none 0 := by have q := decO_none 30 t (by rw [HZ.out]; exact hc); rw [HZ.out] at q; exact q
        subst hz0
        have hcb : (c != 0) = true := by rw [bne_iff_ne]; exact hc
        obtain ⟨b, hb⟩ : ∃ b : Bool, b = decide (iV (.none 0)) := ⟨_, rfl⟩
        have HMB := Lh hb.symm
        have hbb : (b != b) = false := by cases b <;> rfl
        have HNO := Lh (show (Op.none 0).Ok from Op.cO)
        clear hb hc
        go_wp2_with (first
                    | (refine ldO rfl _ rfl Xa rfl (.none 0) tK.out ?_)
                    | (refine wR rfl _ rfl (.none 0) (by intro w; kernel_rfl) ?_)
                    | (refine neOs rfl _ _ _ rfl (.none 0) rfl rfl ?_))
        refine (answer (xN (.none 0) HNO.out V302 (HT.out.below nM.out) (HH.out.below nM.out)) (v' := .bool b) (by rw [HMB.out])).mono ?_
        rintro e U303 ⟨rfl, q⟩
        have oI := Lh (nM.out.trans (q.mono nM.out.size))
        have vZ := Lh (tK.out.below q tK.out.lt)
        clear q
        go_wp2_with (refine wR rfl _ rfl (.none 0) (by intro w; kernel_rfl) ?_)
        refine (answer (xN (.none 0) HNO.out U303 (HT.out.below oI.out) (HH.out.below oI.out)) (v' := .bool b) (by rw [HMB.out])).mono ?_
        rintro e U304 ⟨rfl, q⟩
        have uC := Lh (oI.out.trans (q.mono oI.out.size))
        have yS := Lh (vZ.out.below q vZ.out.lt)
        clear q
        go_wp2_with fail
        exact ⟨⟨j + 1, by omega, by go_num, uC.out⟩, by simp [intOf]; omega⟩
    · have hj2 : j = 2 := by omega
      subst hj2
      go_wp2_with fail
      go_ret
      exact ⟨rfl, HW0.out⟩
theorem lifted (os:Os) (started:os.Started) (H:Type) (enc:TypeId×Value→H):
  ReturnsInHanded {} Tryz.checked os 7 .any (fun w args=>(Rows.optCanonSpec.pre enc Tryz.prog Tryz.f7 [] false w args∧laidMetH Tryz.prog laid1 w)∧sizedMet enc Tryz.prog Tryz.f7 (OpenSpec.ofChange Rows.optCanonSpec) false w args)
   (Rows.optCanonSpec.post enc Tryz.prog Tryz.f7 false true false false):=by
 refine returnsInHanded_of_change_and (C:=Tryz.checked) (X:=fun w _=>laidMetH Tryz.prog laid1 w) (fun _ _ _ hh h=>h.of_heap hh) own started (by kernel_rfl) Tryz.func7
  (ChangeSpec.witness_shaped (enc:=enc) (C:=Tryz.checked) (os:=os) (X:=fun w _=>laidMetH Tryz.prog laid1 w) false (World.doorLaid Tryz.prog 400 os) #[.string ByteArray.empty,.agg (drv ⟨0,0,0,false,false,false,0,0,0,0,List.replicate 24 0⟩),.agg #[.int .u8 0,.int .u8 0]] 8 rfl (World.shaped_of_RefB (by kernel_rfl) (by kernel_rfl)) (by kernel_rfl) (by kernel_rfl) (by kernel_rfl) (door_met os _)) ?_
 intro W base args ds gs before hval0 hW hcnd hsz0 hL _
 have hsz:(DataW.weightsEach Tryz.prog (Tryz.f7.params.toList++Rows.optCanonSpec.plain.varTypes Tryz.prog) (ds++gs)).all (·≤reachBytes)=true:=hsz0
 have ht:=table_of hL
 have hval:∀(j:Nat) t v,Tryz.f7.params[j]?=some t→args[j]?=some v→Value.okWide Tryz.prog W .any base t v:=hval0
 have hW':=hW
 obtain ⟨p,q,hA0,hV,rfl,hfz,hnd⟩:=hW
 have hA:DataW.TrodAll enc Tryz.prog W 0 (fun _=>true) true Tryz.f7.params.toList args.toList ds p:=hA0
 rw [Tryz.params7] at hA hval hsz
 obtain ⟨v0,vs0,d0,ds0,p0,q0,hargs,rfl,rfl,h0,r0⟩:=trodAll_cons hA
 obtain ⟨v1,vs1,d1,ds1,p1,q1,rfl,rfl,rfl,h1,r1⟩:=trodAll_cons r0
 obtain ⟨v2,vs2,d2,ds2,p2,q2,rfl,rfl,rfl,h2,r2⟩:=trodAll_cons r1
 obtain ⟨rfl,rfl,rfl⟩:=trodAll_nil r2
 obtain rfl:args=#[v0,v1,v2]:=by cases args;simp_all
 obtain ⟨rfl,rfl⟩:=trodVars_none hV
 obtain ⟨a0,rfl,rfl,rfl,w0⟩:=Go.ChangeMaps.open_string Tryz.underlying9 (hval 0 9 v0 rfl rfl) h0
 have k1:=h1
 have lt1:∀x∈p1,x.block < W.heap.size:=by obtain ⟨m,hm⟩:=k1;exact DataW.trod_lt m _ _ _ hm
 obtain ⟨d,rfl,hd⟩:=open_draft (hval 1 48 v1 rfl rfl) h1
 have k2:=h2
 have lt2:∀x∈p2,x.block < W.heap.size:=by obtain ⟨m,hm⟩:=k2;exact DataW.trod_lt m _ _ _ hm
 obtain ⟨n0,n1,hn0,hn1,rfl⟩:=open_two (hval 2 60 v2 rfl rfl) h2
 have z0:a0.size≤140737488351232:=by have:=sized_string hsz (j:=0) (t:=9) rfl rfl;simpa [reachBytes] using this
 clear hA0 hval0
 simp only [List.append_nil] at hW'
 refine (walk a0 d hd n0 n1 hn0 hn1 W ht).mono fun e W' ⟨he,bel⟩=>?_
 subst he
 exact ⟨_,rfl,_,_,_,[],_,[],hW',trodAll_mk1 (shut_bool Tryz.underlying4 _),(trodAll_cons_mk (Go.ChangeMaps.shut_string Tryz.underlying9 w0) (trodAll_cons_mk (Below.trod laidOut (by kernel_rfl) (of_decide_eq_true (by kernel_rfl)) k1 bel lt1) (trodAll_cons_mk (Below.trod laidOut (by kernel_rfl) (of_decide_eq_true (by kernel_rfl)) k2 bel lt2) trodAll_mk0))),rfl,bel.frame _,fun h=>by cases h⟩
theorem over:Rows.OptCanonSaid:=
 OpenClaim.holds_of_wide 7 Tryz.f7 rfl rfl rfl rfl rfl rfl rfl ⟨rfl,rfl,rfl,rfl,rfl⟩ rfl rfl rfl rfl rfl (by kernel_rfl) Tryz.func7 (by kernel_rfl)
  (of_decide_eq_true (by kernel_rfl)) (by unfold Func.isWrapper;first | (rw [if_pos (by decide+kernel)];kernel_rfl) | (rw [if_neg (by decide+kernel)];exact ⟨rfl,rfl⟩))
  (fun os started H enc _=>lifted os started H enc)
theorem proved:Rows.OptCanonCardSaid:=
 Claim7.holds_tied_plain_at .later [] [.handle,.data] true _ true
  over (fun _ h=>by cases h) (by kernel_rfl) (fun _ h=>by cases h) optCanon_row_tie rfl ⟨rfl,rfl⟩ (by kernel_rfl) rfl
  (fun f fn hf hfn=>by
   obtain rfl:f=7:=Option.some.inj ((show Tryz.prog.funcNamed "plait/plaitlaw14.OptCanon"=some 7 by kernel_rfl).symm.trans hf) |>.symm
   obtain rfl:fn=Tryz.f7:=(Option.some.inj (Tryz.func7.symm.trans hfn)).symm
   exact ⟨by kernel_rfl,fun j t ht=>by
    rw [Tryz.params7] at ht
    have hm:t∈([9,48,60]:List TypeId):=by simpa using Array.mem_of_getElem? ht
    have hall:(([9,48,60]:List TypeId).all fun u=>!Tryz.prog.wantsStandIn u)=true:=by kernel_rfl
    exact (show Tryz.prog.wantsStandIn t=false by simpa using List.all_eq_true.1 hall t hm)⟩)
  (by kernel_rfl)
#print axioms proved
end Go.Proofs.YtnlhhjhidkjlbaaGreatDoor.L14.optCanon
