/-
  The chapter's examples; an option of each subtype; the longest area; which error comes first (statement OptKnown, promises P14.1 to P14.3), without condition but the variables' own initial values, which the card ties to the program's text.
-/
import Derived.Test.YtnlhhjhidkjlbaaGreatDoorRedBase
import Derived.Test.YtnlhhjhidkjlbaaGreatDoorRedOpt0
import Derived.Deep.CutBlock
set_option maxHeartbeats 4000000
set_option maxRecDepth 100000
set_option linter.unusedVariables false
set_option linter.unusedSimpArgs false
namespace Go.Proofs.YtnlhhjhidkjlbaaGreatDoor.L14.optKnown
open Go Go.ChangeShapes Go.WideShapes Go.ChangeAt Go.RowKit
theorem walk (w : World) (ht : L10.Tbl w ∧ Hnd w) :
    Calls Tryz.prog 9 #[] w (Rt w (.bool true)) := by
  have HT := Lh ht.1
  have HH := Lh ht.2
  obtain ⟨BY, hBY⟩ : ∃ b, b = byv (List.replicate 37 0) := ⟨_, rfl⟩
  obtain ⟨I, hI⟩ := eqx ids
  have HI := Lh hI
  obtain ⟨V0, hV⟩ : ∃ V, V = w.alloc (.cells BY 5) := ⟨_, rfl⟩
  have HB_0 := Lh (qA hV)
  have hmk : (Instr.makeSlice 61 (.int .i64 37) (.int .i64 37)).run Tryz.prog w = .ok (.slice (some ⟨w.heap.size, 0, none⟩) 37 37) V0 := by rw [hV, hBY]; exact make_any w 37 37 rfl (by decide)
  have hzt : (convert 61 9 (.slice (some ⟨w.heap.size, 0, none⟩) 37 37)).run Tryz.prog V0 = .ok (.string I) V0 := by rw [hV, hBY, hI]; exact zeros_text w 37 37
  clear hBY hI hV
  clear ht
  go_enter Tryz.func9, Tryz.ntmps9
  go_upto_region 2 with fail
  clear hmk hzt
  go_wp2_with (first
        | (refine bK rfl #[(1, .tmp 30)] rfl lW (by intro w; kernel_rfl) ?_)
        | (refine bK rfl #[(0, .const (.int .i64 1))] rfl (.none 1) (by intro w; kernel_rfl) ?_)
        | (refine bK rfl #[(0, .const (.int .i64 2)), (3, .tmp 33)] rfl kDs (by intro w; kernel_rfl) ?_)
        | (refine bK rfl #[(0, .const (.int .i64 3)), (4, .tmp 35)] rfl kAd (by intro w; kernel_rfl) ?_)
        | (refine bK rfl #[(0, .const (.int .i64 4)), (5, .tmp 37)] rfl kRm (by intro w; kernel_rfl) ?_)
        | (refine bK rfl #[(0, .const (.int .i64 6))] rfl (.none 6) (by intro w; kernel_rfl) ?_)
        | (refine bK rfl #[(0, .const (.int .i64 7))] rfl (.none 7) (by intro w; kernel_rfl) ?_))
  refine (lF false V0).mono ?_
  rintro e U1 ⟨rfl, q⟩
  have xN := Lh (HB_0.out.trans (q.mono HB_0.out.size))
  clear q
  go_wp2_with (first
        | (refine bK rfl #[(1, .tmp 30)] rfl lW (by intro w; kernel_rfl) ?_)
        | (refine bK rfl #[(0, .const (.int .i64 1))] rfl (.none 1) (by intro w; kernel_rfl) ?_)
        | (refine bK rfl #[(0, .const (.int .i64 2)), (3, .tmp 33)] rfl kDs (by intro w; kernel_rfl) ?_)
        | (refine bK rfl #[(0, .const (.int .i64 3)), (4, .tmp 35)] rfl kAd (by intro w; kernel_rfl) ?_)
        | (refine bK rfl #[(0, .const (.int .i64 4)), (5, .tmp 37)] rfl kRm (by intro w; kernel_rfl) ?_)
        | (refine bK rfl #[(0, .const (.int .i64 6))] rfl (.none 6) (by intro w; kernel_rfl) ?_)
        | (refine bK rfl #[(0, .const (.int .i64 7))] rfl (.none 7) (by intro w; kernel_rfl) ?_))
  refine (vZ 0 0 U1).mono ?_
  rintro e U2 ⟨rfl, q⟩
  have yZ := Lh (xN.out.trans (q.mono xN.out.size))
  clear q
  go_upto_region 3 with (refine sN rfl 9 _ rfl vJ (by decide) (by decide) rfl ?_ ?_; kernel_rfl; intro U9 X9 hX hU; have HRK := Lh (show bP U9 (.slice (some ⟨X9, 0, none⟩) 9 9) vJ from by rw [hX, hU]; exact bP.o7 9 9 rfl (by decide) (by decide) (Blk.new _ _ _)); have hB := lC (Below.refl U2.heap.size U2) hU; have y7 := Lh (yZ.out.trans (hB.mono yZ.out.size)); clear hB hX hU)
  obtain ⟨X3, hX⟩ : ∃ g, g = U9.heap.size := ⟨_, rfl⟩
  obtain ⟨V3, hV⟩ : ∃ V, V = U9.alloc (.cells #[.int .i64 2, .int .i64 10, .int .i64 6, .int .i64 6, .int .i64 2, .int .i64 1, .int .i64 10, .int .i64 10, .int .i64 2] 3) := ⟨_, rfl⟩
  have HIN := Lh (show Blk V3 X3 3 #[.int .i64 2, .int .i64 10, .int .i64 6, .int .i64 6, .int .i64 2, .int .i64 1, .int .i64 10, .int .i64 10, .int .i64 2] by rw [hV, hX]; exact Blk.new _ _ _)
  have hB := lC (Below.refl U9.heap.size U9) hV
  have HRK3 := Lh (HRK.out.below hB)
  have yV := Lh (y7.out.trans (hB.mono y7.out.size))
  have HX3 := Lh hX
  have HV3 := Lh hV
  clear hB hX hV HRK
  go_upto_block 0 with fail
  rw [← HV3.out, ← HX3.out]
  clear HX3 HV3
  go_wp2_with fail
  go_loopw [4] (fun i wr => ∃ j : Nat, j ≤ 9 ∧ i = .int .i64 (j : Int) ∧ Below V3.heap.size V3 wr) (fun i _ => 9 - (intOf i).toNat)
  case atStart => exact ⟨0, by omega, rfl, Below.refl _ _⟩
  case round =>
    obtain ⟨j, hj, rfl, hW⟩ := hrel
    have HWZ := Lh hW
    have HW0 := Lh (yV.out.trans (hW.mono yV.out.size))
    clear hW
    by_cases hlt : j < 9
    · skip
      have HWR := Lh (show From wr wr from Below.refl _ _)
      have hli : (j : Int) < 9 := by omega
      obtain ⟨x, hx⟩ : ∃ x, vJ[j]? = some x := ⟨_, List.getElem?_eq_getElem (show j < vJ.length from hlt)⟩
      have hn := rE j x hx
      obtain ⟨g, hp, hg, hra⟩ := (HRK3.out.below HWZ.out).at j x hx
      obtain rfl : X9 = g := by injection hp with e; injection e
      have HRA := Lh hra
      have HGK := Lh hg
      have HPK := Lh (fun W => pU X9 j 9 9 hlt (by decide) W)
      have HPI := Lh (fun W => place_n X3 j 9 9 hlt (by decide) W)
      have HIR := Lh (HIN.out.below HWZ.out HIN.out.lt)
      obtain ⟨T, hT⟩ := eqx x.body.1
      have HXO := Lh hn.ok
      have HXM := Lh hn.may
      have HEX := Lh (show dA x = .tuple #[.agg (itv (30, T)), .int .i64 0] by unfold dA; rw [uU hn.may, hT])
      obtain ⟨n, hnn⟩ := eqx (sizeK.getD j 0)
      have HTN := Lh (show T.size = n by rw [hT, hnn]; exact hn.size)
      have HNI := Lh (show (#[.int .i64 2, .int .i64 10, .int .i64 6, .int .i64 6, .int .i64 2, .int .i64 1, .int .i64 10, .int .i64 10, .int .i64 2] : Array Value)[j]? = some (.int .i64 (n : Int)) by
        rw [hnn]
        have h9 : j = 0 ∨ j = 1 ∨ j = 2 ∨ j = 3 ∨ j = 4 ∨ j = 5 ∨ j = 6 ∨ j = 7 ∨ j = 8 := by omega
        rcases h9 with rfl | rfl | rfl | rfl | rfl | rfl | rfl | rfl | rfl <;> rfl)
      obtain ⟨v, hv⟩ : ∃ v : Nat, v = x.cap.ver.toNat := ⟨_, rfl⟩
      have hv1 : x.cap.ver = (v : Int) ∧ v ≤ 1 := by rw [hv, hn.ver]; split <;> exact ⟨rfl, by decide⟩
      have HVR := Lh hv1
      have hbl := (sW x hn.may.1).1
      rw [← hT] at hbl
      obtain ⟨b, hb, hbi⟩ := byte_of T 0 hbl
      have HBI := Lh hbi
      have HBV := Lh (show b.toNat = 16 * j + v + (if j = 3 then 1 else 0) by rw [← hb, hT, hv]; exact hn.head)
      have HB2 := Lh (show (ov x)[2]? = some (.int .i64 x.cap.ver) from by kernel_rfl)
      clear hn hp hg hra hT hnn hv hv1 hbl hb hbi hx
      go_wp2_with (first
                | (refine wB rfl (.pointer (some ⟨X9, j * 38, none⟩)) (kY 67 (.tmp 52) (.tmp 53) _ _ _ (HPK.out _) rfl rfl rfl) ?_)
                | (refine uC rfl _ rfl X9 (j * 38) rfl x HRA.out ?_))
      refine (answer (dI x HXO.out wr (HT.out.below HW0.out) (HH.out.below HW0.out)) (v' := .tuple #[.agg (itv (30, T)), .int .i64 0]) HEX.out).mono ?_
      rintro e U301 ⟨rfl, q⟩
      have yC := Lh (HW0.out.trans (q.mono HW0.out.size))
      have Hfr_301 := Lh (HWR.out.below q)
      clear q
      go_upto_region 8 with (refine sJ rfl rfl 5 rfl rfl _ rfl (30, T) (fun _ => by kernel_rfl) (fun _ => by kernel_rfl) ?_; intro V302 Xe hb hB hx; have nH := Lh hb; have Ge := Lh (Nat.le_trans yC.out.size hx); have mX := Lh (yC.out.trans (hB.mono yC.out.size)); have o9 := Lh (Hfr_301.out.below hB); clear hb hB hx)
      have HIV := Lh (HIR.out.below o9.out HIR.out.lt)
      have HGV := Lh (Nat.lt_of_lt_of_le HGK.out o9.out.size)
      have HRB := Lh (show V302.rangeAt X9 (j * 38) (ov x).toList from fun i z hz => (World.cell?_of_block (a := ⟨X9, j * 38 + i, none⟩) (Below.block o9.out X9 HGK.out)).trans (HRA.out i z hz))
      clear HRA HIR
      by_cases h3 : j = 3
      · skip
        refine dD (n := 41) rfl ?_
        intro Z0 B0
        refine stF 0 (.int .i64 0) rfl B0 (stF 1 (.bool false) rfl B0 (stF 2 (.bool false) rfl B0 (stF 3 (.pointer (some ⟨Xe, 1, none⟩)) rfl B0 (stG 4 (.string T) rfl B0 (fun W q => xLd 9 (.tmp 62) ⟨Xe, 1, none⟩ (((nH.out.below q nH.out.lt).cell 1).trans rfl)) (stF 5 (.int .i64 (T.size : Int)) rfl B0 (stF 6 (.slice (some ⟨X3, 0, none⟩) 9 9) rfl B0 (stF 7 (.int .i64 (j : Int)) rfl B0 (stG 8 (.pointer (some ⟨X3, j, none⟩)) rfl B0 (fun W _ => kY 86 (.tmp 65) (.tmp 66) _ _ _ (HPI.out W)) (stG 9 (.int .i64 (n : Int)) rfl B0 (fun W q => xLd 3 (.tmp 67) ⟨X3, j, none⟩ (((HIV.out.below q HIV.out.lt).cell j).trans HNI.out)) ?_)))))))))
        refine stG 10 (.bool false) rfl B0 (fun W _ => lG .i64 3 3 (.tmp 64) (.tmp 68) (by kernel_rfl) (T.size : Int) (n : Int) (by kernel_rfl) (by kernel_rfl) (by kernel_rfl) (by rw [HTN.out])) (stF 11 (.bool false) rfl B0 (stF 12 (.bool false) rfl B0 (stF 13 (.pointer (some ⟨Xe, 1, none⟩)) rfl B0 (stG 14 (.string T) rfl B0 (fun W q => xLd 9 (.tmp 72) ⟨Xe, 1, none⟩ (((nH.out.below q nH.out.lt).cell 1).trans rfl)) (stG 15 (.int .u8 (b.toNat : Int)) rfl B0 (fun W _ => xIx 9 (.tmp 73) (.const (.int .i64 0)) (.string T) (.int .i64 0) _ HBI.out) (stF 16 (.int .i64 (j : Int)) rfl B0 (stG 17 (.int .i64 ((16 * j : Nat) : Int)) rfl B0 (fun W _ => ex_mul64 3 3 (.tmp 75) (.const (.int .i64 16)) (j : Int) 16 ((16 * j : Nat) : Int) (by omega) (by omega)) (stG 18 (.int .u8 ((16 * j : Nat) : Int)) rfl B0 (fun W _ => bW (v := .int .i64 ((16 * j : Nat) : Int)) 3 5 (.tmp 76) (by kernel_rfl) (by kernel_rfl) (eP _ (16 * j) (by omega) W)) (stF 19 (.slice (some ⟨X9, 0, none⟩) 9 9) rfl B0 ?_)))))))))
        refine stF 20 (.int .i64 (j : Int)) rfl B0 (stG 21 (.pointer (some ⟨X9, j * 38, none⟩)) rfl B0 (fun W _ => kY 67 (.tmp 78) (.tmp 79) _ _ _ (HPK.out W)) (stF 22 (.pointer (some ⟨X9, j * 38 + 1, none⟩)) rfl B0 (stF 23 (.pointer (some ⟨X9, j * 38 + 2, none⟩)) rfl B0 (stG 24 (.int .i64 (v : Int)) rfl B0 (fun W q => xLd 3 (.tmp 82) ⟨X9, j * 38 + 2, none⟩ ((World.cell?_of_block (a := ⟨X9, j * 38 + 2, none⟩) (q.block X9 HGV.out)).trans (HRB.out 2 _ (by rw [Array.getElem?_toList, HB2.out, HVR.out.1])))) (stG 25 (.int .u8 (v : Int)) rfl B0 (fun W _ => bW (v := .int .i64 (v : Int)) 3 5 (.tmp 83) (by kernel_rfl) (by kernel_rfl) (eP _ v (by have := HVR.out.2; omega) W)) (stG 26 (.int .u8 ((16 * j + v : Nat) : Int)) rfl B0 (fun W _ => sU 5 5 (.tmp 77) (.tmp 84) ((16 * j : Nat) : Int) (v : Int) ((16 * j + v : Nat) : Int) (by omega) (by have := HVR.out.2; omega)) (stG 27 (.bool true) rfl B0 (fun W _ => ex_intne .u8 5 5 (.tmp 74) (.tmp 85) (by kernel_rfl) (b.toNat : Int) ((16 * j + v : Nat) : Int) (by kernel_rfl) (by kernel_rfl) (by kernel_rfl) (by have := HBV.out; rw [if_pos h3] at this; omega)) (stF 28 (.bool true) rfl B0 (stF 29 (.int .i64 (j : Int)) rfl B0 ?_)))))))))
        refine stG 30 (.bool false) rfl B0 (fun W _ => lG .i64 3 3 (.tmp 88) (.const (.int .i64 3)) (by kernel_rfl) (j : Int) 3 (by kernel_rfl) (by kernel_rfl) (by kernel_rfl) (by omega)) (stF 31 (.bool false) rfl B0 (stF 32 (.bool false) rfl B0 (stF 33 (.bool false) rfl B0 (stF 34 (.slice (some ⟨X9, 0, none⟩) 9 9) rfl B0 (stF 35 (.int .i64 (j : Int)) rfl B0 (stG 36 (.pointer (some ⟨X9, j * 38, none⟩)) rfl B0 (fun W _ => kY 67 (.tmp 93) (.tmp 94) _ _ _ (HPK.out W)) (stG 37 (.agg (ov x)) rfl B0 (fun W q => qZ (.tmp 95) X9 (j * 38) x (fun i z hz => (World.cell?_of_block (a := ⟨X9, j * 38 + i, none⟩) (q.block X9 HGV.out)).trans (HRB.out i z hz))) ?_)))))))
        refine stB 38 (v := .bool true) rfl (answer (wP x HXO.out Z0 ((HT.out.below mX.out).below B0) ((HH.out.below mX.out).below B0)) (v' := .bool true) (by rw [decide_eq_true HXM.out])) B0 ?_
        intro Z1 B1
        clear B0
        refine stF 39 (.bool false) rfl B1 (stF 40 (.bool false) rfl B1 ?_)
        refine bG ⟨List.toArray (u0 :: Value.string I :: Value.slice (some ⟨X9, 0, none⟩) 9 9 :: Value.slice (some ⟨X3, 0, none⟩) 9 9 :: Value.int .i64 (j : Int) :: Value.pointer (some ⟨Xe, 0, none⟩) :: Value.int .i64 0 :: undef :: undef :: undef :: undef :: undef :: undef :: undef :: undef :: undef :: undef :: undef :: undef :: undef :: undef :: undef :: undef :: undef :: undef :: undef :: undef :: undef :: Value.slice (some ⟨w.heap.size, 0, none⟩) 37 37 :: Value.string I :: Value.agg #[.int .i64 0, .int .i64 1, .bool false, .bool false, .int .u64 0, .int .u64 0, .int .i64 0, .int .u16 0] :: Value.agg (ov lW) :: Value.agg (ov (.none 1)) :: Value.agg #[.bool false, .bool true, .bool false, .int .u64 0, .bool false, .bool false, .int .u64 0, .int .u32 0, .int .i64 0, .bool false, .int .u16 0] :: Value.agg (ov kDs) :: Value.agg #[.bool true, .int .i64 0, .string ⟨#[97, 98, 99, 100]⟩, .bool false, .int .i64 0, .string ⟨#[]⟩] :: Value.agg (ov kAd) :: Value.agg #[.string ⟨#[97]⟩] :: Value.agg (ov kRm) :: Value.agg (ov (Op.pr_ false)) :: Value.agg (ov (.none 6)) :: Value.agg (ov (.none 7)) :: Value.agg (ov (Op.rs_ 0 0)) :: Value.slice (some ⟨X9, 0, none⟩) 9 9 :: Value.slice (some ⟨X3, 0, none⟩) 9 9 :: Value.int .i64 (j : Int) :: Value.slice (some ⟨X9, 0, none⟩) 9 9 :: Value.int .i64 9 :: Value.bool true :: u49 :: u50 :: Value.tuple #[.agg (itv (30, T)), .int .i64 0] :: Value.slice (some ⟨X9, 0, none⟩) 9 9 :: Value.int .i64 (j : Int) :: Value.pointer (some ⟨X9, j * 38, none⟩) :: Value.agg (ov x) :: Value.tuple #[.agg (itv (30, T)), .int .i64 0] :: Value.agg (itv (30, T)) :: Value.int .i64 0 :: Value.int .i64 0 :: Value.bool false :: Value.bool false :: Value.pointer (some ⟨Xe, 1, none⟩) :: Value.string T :: Value.int .i64 (T.size : Int) :: Value.slice (some ⟨X3, 0, none⟩) 9 9 :: Value.int .i64 (j : Int) :: Value.pointer (some ⟨X3, j, none⟩) :: Value.int .i64 (n : Int) :: Value.bool false :: Value.bool false :: Value.bool false :: Value.pointer (some ⟨Xe, 1, none⟩) :: Value.string T :: Value.int .u8 (b.toNat : Int) :: Value.int .i64 (j : Int) :: Value.int .i64 ((16 * j : Nat) : Int) :: Value.int .u8 ((16 * j : Nat) : Int) :: Value.slice (some ⟨X9, 0, none⟩) 9 9 :: Value.int .i64 (j : Int) :: Value.pointer (some ⟨X9, j * 38, none⟩) :: Value.pointer (some ⟨X9, j * 38 + 1, none⟩) :: Value.pointer (some ⟨X9, j * 38 + 2, none⟩) :: Value.int .i64 (v : Int) :: Value.int .u8 (v : Int) :: Value.int .u8 ((16 * j + v : Nat) : Int) :: Value.bool true :: Value.bool true :: Value.int .i64 (j : Int) :: Value.bool false :: Value.bool false :: Value.bool false :: Value.bool false :: Value.slice (some ⟨X9, 0, none⟩) 9 9 :: Value.int .i64 (j : Int) :: Value.pointer (some ⟨X9, j * 38, none⟩) :: Value.agg (ov x) :: Value.bool true :: Value.bool false :: Value.bool false :: undef :: undef :: undef :: undef :: undef :: undef :: undef :: undef :: undef :: undef :: undef :: undef :: undef :: undef :: undef :: undef :: undef :: undef :: undef :: undef :: undef :: undef :: undef :: undef :: undef :: undef :: undef :: undef :: undef :: undef :: undef :: undef :: undef :: undef :: undef :: undef :: undef :: undef :: undef :: undef :: undef :: undef :: undef :: undef :: undef :: undef :: undef :: undef :: undef :: undef :: undef :: undef :: undef :: undef :: undef :: undef :: undef :: undef :: undef :: undef :: undef :: undef :: undef :: undef :: undef :: undef :: undef :: undef :: undef :: undef :: undef :: undef :: undef :: undef :: undef :: undef :: undef :: undef :: undef :: undef :: undef :: undef :: undef :: undef :: undef :: undef :: undef :: undef :: undef :: undef :: undef :: undef :: undef :: undef :: undef :: undef :: undef :: undef :: undef :: undef :: undef :: undef :: undef :: undef :: undef :: undef :: undef :: undef :: undef :: undef :: undef :: undef :: undef :: undef :: undef :: undef :: undef :: undef :: undef :: undef :: undef :: undef :: undef :: undef :: undef :: undef :: undef :: undef :: undef :: undef :: undef :: []), []⟩ (by kernel_rfl) (by kernel_rfl) ?_
        have HB_303 := Lh (mX.out.trans (B1.mono mX.out.size))
        have wE := Lh (o9.out.below B1)
        clear B1
        go_wp2_with fail
        go_roundw
        case rel => exact ⟨j + 1, by omega, by first | go_num | exact congrArg (Value.int IntKind.i64) (by omega), Below.trans HWZ.out (Below.mono wE.out HWZ.out.size)⟩
        case measure => simp [intOf]; omega
      · skip
        refine dD (n := 41) rfl ?_
        intro Z0 B0
        refine stF 0 (.int .i64 0) rfl B0 (stF 1 (.bool false) rfl B0 (stF 2 (.bool false) rfl B0 (stF 3 (.pointer (some ⟨Xe, 1, none⟩)) rfl B0 (stG 4 (.string T) rfl B0 (fun W q => xLd 9 (.tmp 62) ⟨Xe, 1, none⟩ (((nH.out.below q nH.out.lt).cell 1).trans rfl)) (stF 5 (.int .i64 (T.size : Int)) rfl B0 (stF 6 (.slice (some ⟨X3, 0, none⟩) 9 9) rfl B0 (stF 7 (.int .i64 (j : Int)) rfl B0 (stG 8 (.pointer (some ⟨X3, j, none⟩)) rfl B0 (fun W _ => kY 86 (.tmp 65) (.tmp 66) _ _ _ (HPI.out W)) (stG 9 (.int .i64 (n : Int)) rfl B0 (fun W q => xLd 3 (.tmp 67) ⟨X3, j, none⟩ (((HIV.out.below q HIV.out.lt).cell j).trans HNI.out)) ?_)))))))))
        refine stG 10 (.bool false) rfl B0 (fun W _ => lG .i64 3 3 (.tmp 64) (.tmp 68) (by kernel_rfl) (T.size : Int) (n : Int) (by kernel_rfl) (by kernel_rfl) (by kernel_rfl) (by rw [HTN.out])) (stF 11 (.bool false) rfl B0 (stF 12 (.bool false) rfl B0 (stF 13 (.pointer (some ⟨Xe, 1, none⟩)) rfl B0 (stG 14 (.string T) rfl B0 (fun W q => xLd 9 (.tmp 72) ⟨Xe, 1, none⟩ (((nH.out.below q nH.out.lt).cell 1).trans rfl)) (stG 15 (.int .u8 (b.toNat : Int)) rfl B0 (fun W _ => xIx 9 (.tmp 73) (.const (.int .i64 0)) (.string T) (.int .i64 0) _ HBI.out) (stF 16 (.int .i64 (j : Int)) rfl B0 (stG 17 (.int .i64 ((16 * j : Nat) : Int)) rfl B0 (fun W _ => ex_mul64 3 3 (.tmp 75) (.const (.int .i64 16)) (j : Int) 16 ((16 * j : Nat) : Int) (by omega) (by omega)) (stG 18 (.int .u8 ((16 * j : Nat) : Int)) rfl B0 (fun W _ => bW (v := .int .i64 ((16 * j : Nat) : Int)) 3 5 (.tmp 76) (by kernel_rfl) (by kernel_rfl) (eP _ (16 * j) (by omega) W)) (stF 19 (.slice (some ⟨X9, 0, none⟩) 9 9) rfl B0 ?_)))))))))
        refine stF 20 (.int .i64 (j : Int)) rfl B0 (stG 21 (.pointer (some ⟨X9, j * 38, none⟩)) rfl B0 (fun W _ => kY 67 (.tmp 78) (.tmp 79) _ _ _ (HPK.out W)) (stF 22 (.pointer (some ⟨X9, j * 38 + 1, none⟩)) rfl B0 (stF 23 (.pointer (some ⟨X9, j * 38 + 2, none⟩)) rfl B0 (stG 24 (.int .i64 (v : Int)) rfl B0 (fun W q => xLd 3 (.tmp 82) ⟨X9, j * 38 + 2, none⟩ ((World.cell?_of_block (a := ⟨X9, j * 38 + 2, none⟩) (q.block X9 HGV.out)).trans (HRB.out 2 _ (by rw [Array.getElem?_toList, HB2.out, HVR.out.1])))) (stG 25 (.int .u8 (v : Int)) rfl B0 (fun W _ => bW (v := .int .i64 (v : Int)) 3 5 (.tmp 83) (by kernel_rfl) (by kernel_rfl) (eP _ v (by have := HVR.out.2; omega) W)) (stG 26 (.int .u8 ((16 * j + v : Nat) : Int)) rfl B0 (fun W _ => sU 5 5 (.tmp 77) (.tmp 84) ((16 * j : Nat) : Int) (v : Int) ((16 * j + v : Nat) : Int) (by omega) (by have := HVR.out.2; omega)) (stG 27 (.bool false) rfl B0 (fun W _ => lG .u8 5 5 (.tmp 74) (.tmp 85) (by kernel_rfl) (b.toNat : Int) ((16 * j + v : Nat) : Int) (by kernel_rfl) (by kernel_rfl) (by kernel_rfl) (by have := HBV.out; rw [if_neg h3] at this; omega)) (stF 28 (.bool false) rfl B0 (stP 29 rfl B0 ?_)))))))))
        refine stP 30 rfl B0 (stF 31 (.bool false) rfl B0 (stF 32 (.bool false) rfl B0 (stF 33 (.bool false) rfl B0 (stF 34 (.slice (some ⟨X9, 0, none⟩) 9 9) rfl B0 (stF 35 (.int .i64 (j : Int)) rfl B0 (stG 36 (.pointer (some ⟨X9, j * 38, none⟩)) rfl B0 (fun W _ => kY 67 (.tmp 93) (.tmp 94) _ _ _ (HPK.out W)) (stG 37 (.agg (ov x)) rfl B0 (fun W q => qZ (.tmp 95) X9 (j * 38) x (fun i z hz => (World.cell?_of_block (a := ⟨X9, j * 38 + i, none⟩) (q.block X9 HGV.out)).trans (HRB.out i z hz))) ?_)))))))
        refine stB 38 (v := .bool true) rfl (answer (wP x HXO.out Z0 ((HT.out.below mX.out).below B0) ((HH.out.below mX.out).below B0)) (v' := .bool true) (by rw [decide_eq_true HXM.out])) B0 ?_
        intro Z1 B1
        clear B0
        refine stF 39 (.bool false) rfl B1 (stF 40 (.bool false) rfl B1 ?_)
        refine bG ⟨List.toArray (u0 :: Value.string I :: Value.slice (some ⟨X9, 0, none⟩) 9 9 :: Value.slice (some ⟨X3, 0, none⟩) 9 9 :: Value.int .i64 (j : Int) :: Value.pointer (some ⟨Xe, 0, none⟩) :: Value.int .i64 0 :: undef :: undef :: undef :: undef :: undef :: undef :: undef :: undef :: undef :: undef :: undef :: undef :: undef :: undef :: undef :: undef :: undef :: undef :: undef :: undef :: undef :: Value.slice (some ⟨w.heap.size, 0, none⟩) 37 37 :: Value.string I :: Value.agg #[.int .i64 0, .int .i64 1, .bool false, .bool false, .int .u64 0, .int .u64 0, .int .i64 0, .int .u16 0] :: Value.agg (ov lW) :: Value.agg (ov (.none 1)) :: Value.agg #[.bool false, .bool true, .bool false, .int .u64 0, .bool false, .bool false, .int .u64 0, .int .u32 0, .int .i64 0, .bool false, .int .u16 0] :: Value.agg (ov kDs) :: Value.agg #[.bool true, .int .i64 0, .string ⟨#[97, 98, 99, 100]⟩, .bool false, .int .i64 0, .string ⟨#[]⟩] :: Value.agg (ov kAd) :: Value.agg #[.string ⟨#[97]⟩] :: Value.agg (ov kRm) :: Value.agg (ov (Op.pr_ false)) :: Value.agg (ov (.none 6)) :: Value.agg (ov (.none 7)) :: Value.agg (ov (Op.rs_ 0 0)) :: Value.slice (some ⟨X9, 0, none⟩) 9 9 :: Value.slice (some ⟨X3, 0, none⟩) 9 9 :: Value.int .i64 (j : Int) :: Value.slice (some ⟨X9, 0, none⟩) 9 9 :: Value.int .i64 9 :: Value.bool true :: u49 :: u50 :: Value.tuple #[.agg (itv (30, T)), .int .i64 0] :: Value.slice (some ⟨X9, 0, none⟩) 9 9 :: Value.int .i64 (j : Int) :: Value.pointer (some ⟨X9, j * 38, none⟩) :: Value.agg (ov x) :: Value.tuple #[.agg (itv (30, T)), .int .i64 0] :: Value.agg (itv (30, T)) :: Value.int .i64 0 :: Value.int .i64 0 :: Value.bool false :: Value.bool false :: Value.pointer (some ⟨Xe, 1, none⟩) :: Value.string T :: Value.int .i64 (T.size : Int) :: Value.slice (some ⟨X3, 0, none⟩) 9 9 :: Value.int .i64 (j : Int) :: Value.pointer (some ⟨X3, j, none⟩) :: Value.int .i64 (n : Int) :: Value.bool false :: Value.bool false :: Value.bool false :: Value.pointer (some ⟨Xe, 1, none⟩) :: Value.string T :: Value.int .u8 (b.toNat : Int) :: Value.int .i64 (j : Int) :: Value.int .i64 ((16 * j : Nat) : Int) :: Value.int .u8 ((16 * j : Nat) : Int) :: Value.slice (some ⟨X9, 0, none⟩) 9 9 :: Value.int .i64 (j : Int) :: Value.pointer (some ⟨X9, j * 38, none⟩) :: Value.pointer (some ⟨X9, j * 38 + 1, none⟩) :: Value.pointer (some ⟨X9, j * 38 + 2, none⟩) :: Value.int .i64 (v : Int) :: Value.int .u8 (v : Int) :: Value.int .u8 ((16 * j + v : Nat) : Int) :: Value.bool false :: Value.bool false :: undef :: undef :: Value.bool false :: Value.bool false :: Value.bool false :: Value.slice (some ⟨X9, 0, none⟩) 9 9 :: Value.int .i64 (j : Int) :: Value.pointer (some ⟨X9, j * 38, none⟩) :: Value.agg (ov x) :: Value.bool true :: Value.bool false :: Value.bool false :: undef :: undef :: undef :: undef :: undef :: undef :: undef :: undef :: undef :: undef :: undef :: undef :: undef :: undef :: undef :: undef :: undef :: undef :: undef :: undef :: undef :: undef :: undef :: undef :: undef :: undef :: undef :: undef :: undef :: undef :: undef :: undef :: undef :: undef :: undef :: undef :: undef :: undef :: undef :: undef :: undef :: undef :: undef :: undef :: undef :: undef :: undef :: undef :: undef :: undef :: undef :: undef :: undef :: undef :: undef :: undef :: undef :: undef :: undef :: undef :: undef :: undef :: undef :: undef :: undef :: undef :: undef :: undef :: undef :: undef :: undef :: undef :: undef :: undef :: undef :: undef :: undef :: undef :: undef :: undef :: undef :: undef :: undef :: undef :: undef :: undef :: undef :: undef :: undef :: undef :: undef :: undef :: undef :: undef :: undef :: undef :: undef :: undef :: undef :: undef :: undef :: undef :: undef :: undef :: undef :: undef :: undef :: undef :: undef :: undef :: undef :: undef :: undef :: undef :: undef :: undef :: undef :: undef :: undef :: undef :: undef :: undef :: undef :: undef :: undef :: undef :: undef :: undef :: undef :: undef :: undef :: []), []⟩ (by kernel_rfl) (by kernel_rfl) ?_
        have HB_303 := Lh (mX.out.trans (B1.mono mX.out.size))
        have wE := Lh (o9.out.below B1)
        clear B1
        go_wp2_with fail
        go_roundw
        case rel => exact ⟨j + 1, by omega, by first | go_num | exact congrArg (Value.int IntKind.i64) (by omega), Below.trans HWZ.out (Below.mono wE.out HWZ.out.size)⟩
        case measure => simp [intOf]; omega
    · skip
      have hj9 : j = 9 := by omega
      subst hj9
      have HRK4 := Lh (HRK3.out.below HWZ.out)
      clear HIN HWZ HRK3
      go_wp2_with (first
                | (refine bK rfl #[(0, .const (.int .i64 9))] rfl (.none 9) (by intro w; kernel_rfl) ?_)
                | (refine bK rfl #[(0, .const (.int .i64 (-1)))] rfl (.none (-1)) (by intro w; kernel_rfl) ?_)
                | (refine bK rfl #[(0, .const (.int .i64 2))] rfl (.none 2) (by intro w; kernel_rfl) ?_)
                | (refine bK rfl #[(0, .const (.int .i64 3))] rfl (.none 3) (by intro w; kernel_rfl) ?_)
                | (refine bK rfl #[(0, .const (.int .i64 4))] rfl (.none 4) (by intro w; kernel_rfl) ?_)
                | (refine bK rfl #[(0, .const (.int .i64 5)), (9, .tmp 105)] rfl { Op.none 5 with rr := 1 } (by intro w; kernel_rfl) ?_)
                | (refine bK rfl #[(0, .const (.int .i64 7)), (7, .tmp 108)] rfl { Op.none 7 with fa := 1 } (by intro w; kernel_rfl) ?_))
      refine (vZ 16 0 wr).mono ?_
      rintro e U5 ⟨rfl, q⟩
      have zU := Lh (HW0.out.trans (q.mono HW0.out.size))
      have Hrk_5 := Lh (HRK4.out.below q)
      clear q
      go_upto_region 11 with (first
                | (refine sN rfl 8 _ rfl rowB (by decide) (by decide) rfl ?_ ?_; kernel_rfl; intro U8 X8 hX hU; have HRB := Lh (show bP U8 (.slice (some ⟨X8, 0, none⟩) 8 8) rowB from by rw [hX, hU]; exact bP.o7 8 8 rfl (by decide) (by decide) (Blk.new _ _ _)); have hB := lC (Below.refl U5.heap.size U5) hU; have y5 := Lh (zU.out.trans (hB.mono zU.out.size)); have Hrk_6 := Lh (Hrk_5.out.below hB); clear hB hX hU)
                | (refine bK rfl #[(0, .const (.int .i64 9))] rfl (.none 9) (by intro w; kernel_rfl) ?_)
                | (refine bK rfl #[(0, .const (.int .i64 (-1)))] rfl (.none (-1)) (by intro w; kernel_rfl) ?_)
                | (refine bK rfl #[(0, .const (.int .i64 2))] rfl (.none 2) (by intro w; kernel_rfl) ?_)
                | (refine bK rfl #[(0, .const (.int .i64 3))] rfl (.none 3) (by intro w; kernel_rfl) ?_)
                | (refine bK rfl #[(0, .const (.int .i64 4))] rfl (.none 4) (by intro w; kernel_rfl) ?_)
                | (refine bK rfl #[(0, .const (.int .i64 5)), (9, .tmp 105)] rfl { Op.none 5 with rr := 1 } (by intro w; kernel_rfl) ?_)
                | (refine bK rfl #[(0, .const (.int .i64 7)), (7, .tmp 108)] rfl { Op.none 7 with fa := 1 } (by intro w; kernel_rfl) ?_))
      go_upto_block 2 with fail
      go_wp2_with fail
      go_loopw [8] (fun i wr => ∃ j : Nat, j ≤ 8 ∧ i = .int .i64 (j : Int) ∧ Below U8.heap.size U8 wr) (fun i _ => 8 - (intOf i).toNat)
      case atStart => exact ⟨0, by omega, rfl, Below.refl _ _⟩
      case round =>
        obtain ⟨j, hj, rfl, hW⟩ := hrel
        have HWZ := Lh hW
        have HW0 := Lh (y5.out.trans (hW.mono y5.out.size))
        clear hW
        by_cases hlt : j < 8
        · skip
          have HWR := Lh (show From wr wr from Below.refl _ _)
          have hli : (j : Int) < 8 := by omega
          obtain ⟨x, hx⟩ : ∃ x, rowB[j]? = some x := ⟨_, List.getElem?_eq_getElem (show j < rowB.length from hlt)⟩
          have hn := rowB_bad j x hx
          obtain ⟨g, hp, hg, hra⟩ := (HRB.out.below HWZ.out).at j x hx
          obtain rfl : X8 = g := by injection hp with e; injection e
          obtain ⟨g, hp2, hg2, hra2⟩ := (Hrk_6.out.below HWZ.out).at 0 lW rfl
          obtain rfl : X9 = g := by injection hp2 with e; injection e
          have HRA := Lh hra
          have HGB := Lh hg
          have HRC := Lh hra2
          have HGK := Lh hg2
          have HPB := Lh (fun W => pU X8 j 8 8 hlt (by decide) W)
          have HPK := Lh (fun W => pU X9 0 9 9 (by decide) (by decide) W)
          have HXO := Lh hn.1
          have HXM := Lh hn.2
          have HEX := Lh (show dA x = .tuple #[.agg (itv (0, ⟨#[]⟩)), .int .i64 2] by unfold dA; rw [oQ hn.2])
          clear hn hp hg hra hp2 hg2 hra2 hx
          go_wp2_with (first
                        | (refine wB rfl (.pointer (some ⟨X8, j * 38, none⟩)) (kY 67 (.tmp 118) (.tmp 119) _ _ _ (HPB.out _) rfl rfl rfl) ?_)
                        | (refine uC rfl _ rfl X8 (j * 38) rfl x HRA.out ?_))
          refine (answer (dI x HXO.out wr (HT.out.below HW0.out) (HH.out.below HW0.out)) (v' := .tuple #[.agg (itv (0, ⟨#[]⟩)), .int .i64 2]) HEX.out).mono ?_
          rintro e U701 ⟨rfl, q⟩
          have xW := Lh (HW0.out.trans (q.mono HW0.out.size))
          have Hfr_701 := Lh (HWR.out.below q)
          clear q
          go_upto_region 15 with (refine sJ rfl rfl 9 rfl rfl _ rfl (0, ⟨#[]⟩) (fun _ => by kernel_rfl) (fun _ => by kernel_rfl) ?_; intro V702 Xe hb hB hx; have He_702 := Lh hb; have Ge := Lh (Nat.le_trans xW.out.size hx); have vY := Lh (xW.out.trans (hB.mono xW.out.size)); have qC := Lh (Hfr_701.out.below hB); clear hb hB hx)
          have HGV := Lh (And.intro (Nat.lt_of_lt_of_le HGK.out qC.out.size) (Nat.lt_of_lt_of_le HGB.out qC.out.size))
          have HRV := Lh (show V702.rangeAt X8 (j * 38) (ov x).toList from fun i z hz => (World.cell?_of_block (a := ⟨X8, j * 38 + i, none⟩) (Below.block qC.out X8 HGB.out)).trans (HRA.out i z hz))
          have HRU := Lh (show V702.rangeAt X9 (0 * 38) (ov lW).toList from fun i z hz => (World.cell?_of_block (a := ⟨X9, 0 * 38 + i, none⟩) (Below.block qC.out X9 HGK.out)).trans (HRC.out i z hz))
          refine dD (n := 14) rfl ?_
          intro Z0 B0
          refine stF 0 (.slice (some ⟨X9, 0, none⟩) 9 9) rfl B0 (stG 1 (.pointer (some ⟨X9, 0 * 38, none⟩)) rfl B0 (fun W _ => kY 67 (.tmp 126) (.const (.int .i64 0)) _ _ _ (HPK.out W)) (stG 2 (.agg (ov lW)) rfl B0 (fun W q => qZ (.tmp 127) X9 (0 * 38) lW (fun i z hz => (World.cell?_of_block (a := ⟨X9, 0 * 38 + i, none⟩) (q.block X9 HGV.out.1)).trans (HRU.out i z hz))) (stF 3 (.slice (some ⟨X8, 0, none⟩) 8 8) rfl B0 (stF 4 (.int .i64 (j : Int)) rfl B0 (stG 5 (.pointer (some ⟨X8, j * 38, none⟩)) rfl B0 (fun W _ => kY 67 (.tmp 129) (.tmp 130) _ _ _ (HPB.out W)) (stG 6 (.agg (ov x)) rfl B0 (fun W q => qZ (.tmp 131) X8 (j * 38) x (fun i z hz => (World.cell?_of_block (a := ⟨X8, j * 38 + i, none⟩) (q.block X8 HGV.out.2)).trans (HRV.out i z hz))) ?_))))))
          obtain ⟨g2, hg2⟩ : ∃ g, g = Z0.heap.size := ⟨_, rfl⟩
          obtain ⟨Z1, hZ1⟩ : ∃ Z, Z = Z0.alloc (.cells (bQ [lW, x]).toArray 44) := ⟨_, rfl⟩
          have HR2 := Lh (show bP Z1 (.slice (some ⟨g2, 0, none⟩) 2 2) [lW, x] from by rw [hZ1, hg2]; exact bP.o7 2 2 rfl (by decide) (by decide) (Blk.new _ _ _))
          have B1 : Below V702.heap.size V702 Z1 := by rw [hZ1]; exact B0.alloc B0.size _
          refine rP (v := .slice (some ⟨g2, 0, none⟩) 2 2) (w' := Z1) 7 rfl (by kernel_rfl) (by kernel_rfl) (by rw [hZ1, hg2]; exact ex_opts2 Z0 (.tmp 128) (.tmp 132) lW x) B1 ?_
          clear hZ1 hg2 B0
          have HOK2 := Lh (show ∀ y ∈ [lW, x], y.Ok from fun y hy => by
            rcases List.mem_cons.1 hy with rfl | hy
            · exact kCap_ok
            · rw [List.mem_singleton.1 hy]; exact HXO.out)
          refine stB 8 (v := .tuple #[.string ⟨#[]⟩, .int .i64 2]) rfl (answer (lN (.slice (some ⟨g2, 0, none⟩) 2 2) [lW, x] (show 2 ≤ 1000 by decide) HOK2.out Z1 HR2.out ((HT.out.below vY.out).below B1) ((HH.out.below vY.out).below B1)) (v' := .tuple #[.string ⟨#[]⟩, .int .i64 2]) (by rw [lay_bad lW x HXM.out])) B1 ?_
          intro Z2 B2
          clear B1
          refine stF 9 (.tuple #[.string ⟨#[]⟩, .int .i64 2]) rfl B2 (stF 10 (.string ⟨#[]⟩) rfl B2 (stF 11 (.int .i64 2) rfl B2 (stF 12 (.string ⟨#[]⟩) rfl B2 (stF 13 (.int .i64 2) rfl B2 ?_))))
          refine bG ⟨List.toArray (u0 :: Value.string I :: Value.slice (some ⟨X9, 0, none⟩) 9 9 :: Value.slice (some ⟨X3, 0, none⟩) 9 9 :: Value.int .i64 9 :: u5 :: u6 :: Value.slice (some ⟨X8, 0, none⟩) 8 8 :: Value.int .i64 (j : Int) :: Value.pointer (some ⟨Xe, 0, none⟩) :: Value.int .i64 2 :: Value.string ⟨#[]⟩ :: Value.int .i64 2 :: undef :: undef :: undef :: undef :: undef :: undef :: undef :: undef :: undef :: undef :: undef :: undef :: undef :: undef :: undef :: Value.slice (some ⟨w.heap.size, 0, none⟩) 37 37 :: Value.string I :: Value.agg #[.int .i64 0, .int .i64 1, .bool false, .bool false, .int .u64 0, .int .u64 0, .int .i64 0, .int .u16 0] :: Value.agg (ov lW) :: Value.agg (ov (.none 1)) :: Value.agg #[.bool false, .bool true, .bool false, .int .u64 0, .bool false, .bool false, .int .u64 0, .int .u32 0, .int .i64 0, .bool false, .int .u16 0] :: Value.agg (ov kDs) :: Value.agg #[.bool true, .int .i64 0, .string ⟨#[97, 98, 99, 100]⟩, .bool false, .int .i64 0, .string ⟨#[]⟩] :: Value.agg (ov kAd) :: Value.agg #[.string ⟨#[97]⟩] :: Value.agg (ov kRm) :: Value.agg (ov (Op.pr_ false)) :: Value.agg (ov (.none 6)) :: Value.agg (ov (.none 7)) :: Value.agg (ov (Op.rs_ 0 0)) :: Value.slice (some ⟨X9, 0, none⟩) 9 9 :: Value.slice (some ⟨X3, 0, none⟩) 9 9 :: Value.int .i64 9 :: Value.slice (some ⟨X9, 0, none⟩) 9 9 :: Value.int .i64 9 :: Value.bool false :: u49 :: u50 :: u51 :: u52 :: u53 :: u54 :: u55 :: u56 :: u57 :: u58 :: u59 :: u60 :: u61 :: u62 :: u63 :: u64 :: u65 :: u66 :: u67 :: u68 :: u69 :: u70 :: u71 :: u72 :: u73 :: u74 :: u75 :: u76 :: u77 :: u78 :: u79 :: u80 :: u81 :: u82 :: u83 :: u84 :: u85 :: u86 :: u87 :: u88 :: u89 :: u90 :: u91 :: u92 :: u93 :: u94 :: u95 :: u96 :: u97 :: u98 :: u99 :: Value.agg (ov (.none 9)) :: Value.agg (ov (.none (-1))) :: Value.agg (ov (.none 2)) :: Value.agg (ov (.none 3)) :: Value.agg (ov (.none 4)) :: Value.agg #[.int .i64 0, .int .i64 1] :: Value.agg (ov { Op.none 5 with rr := 1 }) :: Value.agg (ov (Op.rs_ 16 0)) :: Value.agg #[.int .u64 1] :: Value.agg (ov { Op.none 7 with fa := 1 }) :: Value.slice (some ⟨X8, 0, none⟩) 8 8 :: Value.int .i64 (j : Int) :: Value.slice (some ⟨X8, 0, none⟩) 8 8 :: Value.int .i64 8 :: Value.bool true :: u115 :: u116 :: Value.tuple #[.agg (itv (0, ⟨#[]⟩)), .int .i64 2] :: Value.slice (some ⟨X8, 0, none⟩) 8 8 :: Value.int .i64 (j : Int) :: Value.pointer (some ⟨X8, j * 38, none⟩) :: Value.agg (ov x) :: Value.tuple #[.agg (itv (0, ⟨#[]⟩)), .int .i64 2] :: Value.agg (itv (0, ⟨#[]⟩)) :: Value.int .i64 2 :: Value.tuple #[.string ⟨#[]⟩, .int .i64 2] :: Value.slice (some ⟨X9, 0, none⟩) 9 9 :: Value.pointer (some ⟨X9, 0 * 38, none⟩) :: Value.agg (ov lW) :: Value.slice (some ⟨X8, 0, none⟩) 8 8 :: Value.int .i64 (j : Int) :: Value.pointer (some ⟨X8, j * 38, none⟩) :: Value.agg (ov x) :: Value.slice (some ⟨g2, 0, none⟩) 2 2 :: Value.tuple #[.string ⟨#[]⟩, .int .i64 2] :: Value.string ⟨#[]⟩ :: Value.int .i64 2 :: u137 :: u138 :: u139 :: u140 :: u141 :: u142 :: u143 :: u144 :: u145 :: u146 :: u147 :: u148 :: u149 :: undef :: undef :: undef :: undef :: undef :: undef :: undef :: undef :: undef :: undef :: undef :: undef :: undef :: undef :: undef :: undef :: undef :: undef :: undef :: undef :: undef :: undef :: undef :: undef :: undef :: undef :: undef :: undef :: undef :: undef :: undef :: undef :: undef :: undef :: undef :: undef :: undef :: undef :: undef :: undef :: undef :: undef :: undef :: undef :: undef :: undef :: undef :: undef :: undef :: undef :: undef :: undef :: undef :: undef :: undef :: undef :: undef :: undef :: undef :: undef :: undef :: undef :: undef :: undef :: undef :: undef :: undef :: undef :: undef :: undef :: undef :: undef :: undef :: undef :: undef :: undef :: undef :: undef :: undef :: undef :: undef :: []), []⟩ (by kernel_rfl) (by kernel_rfl) ?_
          have wG := Lh (vY.out.trans (B2.mono vY.out.size))
          have Hfr_703 := Lh (qC.out.below B2)
          clear B2
          have HRW := Lh (show Z2.rangeAt X8 (j * 38) (ov x).toList from fun i z hz => (World.cell?_of_block (a := ⟨X8, j * 38 + i, none⟩) (Below.block Hfr_703.out X8 HGB.out)).trans (HRA.out i z hz))
          go_wp2_with (first
                        | (refine wB rfl (.pointer (some ⟨X8, j * 38, none⟩)) (kY 67 (.tmp 137) (.tmp 138) _ _ _ (HPB.out _) rfl rfl rfl) ?_)
                        | (refine uC rfl _ rfl X8 (j * 38) rfl x HRW.out ?_))
          refine (answer (wP x HXO.out Z2 (HT.out.below wG.out) (HH.out.below wG.out)) (v' := .bool false) (by rw [decide_eq_false HXM.out])).mono ?_
          rintro e U704 ⟨rfl, q⟩
          have HB_704 := Lh (wG.out.trans (q.mono wG.out.size))
          have Hfr_704 := Lh (Hfr_703.out.below q)
          clear q
          go_wp2_with fail
          exact ⟨⟨j + 1, by omega, by go_num, Below.trans HWZ.out (Below.mono Hfr_704.out HWZ.out.size)⟩, by simp [intOf]; omega⟩
        · skip
          have hj8 : j = 8 := by omega
          subst hj8
          have HRK5 := Lh (Hrk_6.out.below HWZ.out)
          clear HWZ
          obtain ⟨S, hS⟩ := eqx ((rV [.rm_ ids]).1)
          have HLF := Lh (show rV [.rm_ I] = (S, 0) from by rw [HI.out]; exact Prod.ext hS.symm lay_full.1)
          have HSZ := Lh (show S.size = 40 from by rw [hS]; exact lay_full.2)
          have HRO := Lh (show ∀ x ∈ [Op.rm_ I], x.Ok from fun x hx => by rw [List.mem_singleton.1 hx, HI.out]; exact ids_ok)
          obtain ⟨T4, hT4⟩ : ∃ T, T = S ++ ⟨#[0, 0, 0, 0]⟩ := ⟨_, rfl⟩
          have HT4 := Lh hT4
          have HAL := Lh (show uQ T4 = ([], 6) from by rw [hT4]; exact all_long S HSZ.out)
          have HZ4 := Lh (show T4.size = 44 from by rw [hT4, ByteArray.size_append, HSZ.out]; rfl)
          have HKO := Lh (show ∀ x ∈ vJ, x.Ok from fun x hx => by obtain ⟨i, hi⟩ := List.getElem?_of_mem hx; exact (rE i x hi).ok)
          clear hS hT4
          go_wp2_with (first
                        | (refine sN rfl 1 _ rfl [.rm_ I] Nat.one_pos (Nat.le_of_ble_eq_true rfl) rfl ?_ ?_; kernel_rfl; intro U7 X7 hX hU; have HRF := Lh (show bP U7 (.slice (some ⟨X7, 0, none⟩) 1 1) [.rm_ I] from by rw [hX, hU]; exact bP.o7 1 1 rfl (by decide) (by decide) (Blk.new _ _ _)); have hB := lC (Below.refl wr.heap.size wr) hU; have wZ := Lh (HW0.out.trans (hB.mono HW0.out.size)); have Hrk_7 := Lh (HRK5.out.below hB); clear hB hX hU)
                        | (refine bK rfl #[(0, .const (.int .i64 4)), (5, .tmp 152)] rfl (.rm_ I) (by intro w; kernel_rfl) ?_))
          refine (answer (lN (.slice (some ⟨X7, 0, none⟩) 1 1) [.rm_ I] (show 1 ≤ 1000 by decide) HRO.out U7 HRF.out (HT.out.below wZ.out) (HH.out.below wZ.out)) (v' := .tuple #[.string S, .int .i64 0]) (by rw [HLF.out])).mono ?_
          rintro e U8 ⟨rfl, q⟩
          have xE := Lh (wZ.out.trans (q.mono wZ.out.size))
          have Hrk_8 := Lh (Hrk_7.out.below q)
          have Hrf_8 := Lh (HRF.out.below q)
          clear q
          go_wp2_with fail
          refine (answer (lN (.slice (some ⟨X9, 0, none⟩) 9 9) vJ (show 9 ≤ 1000 by decide) HKO.out U8 Hrk_8.out (HT.out.below xE.out) (HH.out.below xE.out)) (v' := .tuple #[.string ⟨#[]⟩, .int .i64 6]) (by rw [lay_room])).mono ?_
          rintro e U9 ⟨rfl, q⟩
          have xZ := Lh (xE.out.trans (q.mono xE.out.size))
          have Hrk_9 := Lh (Hrk_8.out.below q)
          clear q
          go_wp2_with fail
          refine (answer (lN (.slice none 0 0) [] (Nat.zero_le _) (fun x hx => by cases hx) U9 (bP.nil _) (HT.out.below xZ.out) (HH.out.below xZ.out)) (v' := .tuple #[.string ⟨#[]⟩, .int .i64 0]) (by rw [lay_none])).mono ?_
          rintro e U10 ⟨rfl, q⟩
          have uG := Lh (xZ.out.trans (q.mono xZ.out.size))
          clear q
          go_wp2_with fail
          refine (nV ⟨#[]⟩ (by decide) ([], 0) all_none_ U10 (HT.out.below uG.out) (HH.out.below uG.out)).mono ?_
          rintro e U11 ⟨va, rfl, hra, q⟩
          obtain ⟨pa, ca, ea, -, -, -⟩ := id hra
          have ea : va = .slice pa 0 ca := ea
          subst ea
          clear hra
          have uA := Lh (uG.out.trans (q.mono uG.out.size))
          clear q
          go_wp2_with (refine wB rfl (.string T4) (ex_strcat 9 9 (.tmp 172) (.const (.string ⟨#[0, 0, 0, 0]⟩)) rfl S ⟨#[0, 0, 0, 0]⟩ T4 (by kernel_rfl) (by kernel_rfl) (by rw [HSZ.out]; decide) (by decide) HT4.out) ?_)
          refine (nV T4 (by rw [HZ4.out]; decide) ([], 6) HAL.out U11 (HT.out.below uA.out) (HH.out.below uA.out)).mono ?_
          rintro e U12 ⟨vb, rfl, hra, q⟩
          obtain ⟨pb, cb, eb, -, -, -⟩ := id hra
          have eb : vb = .slice pb 0 cb := eb
          subst eb
          clear hra
          have pV := Lh (uA.out.trans (q.mono uA.out.size))
          clear q
          go_wp2_with fail
          refine (nV ⟨#[30, 2, 0, 0]⟩ (by decide) ([], 4) all_short U12 (HT.out.below pV.out) (HH.out.below pV.out)).mono ?_
          rintro e U13 ⟨vc, rfl, hra, q⟩
          obtain ⟨pc, cc, ec, -, -, -⟩ := id hra
          have ec : vc = .slice pc 0 cc := ec
          subst ec
          clear hra
          have qG := Lh (pV.out.trans (q.mono pV.out.size))
          clear q
          go_wp2_with fail
          have hs40 : ((S.size : Int) == 40) = true := by rw [HSZ.out]; rfl
          refine (nV ⟨#[30, 4, 80, 0, 30, 2, 0, 0]⟩ (by decide) ([], 5) all_first U13 (HT.out.below qG.out) (HH.out.below qG.out)).mono ?_
          rintro e U14 ⟨vd, rfl, hra, q⟩
          obtain ⟨pd, cd, ed, -, -, -⟩ := id hra
          have ed : vd = .slice pd 0 cd := ed
          subst ed
          clear hra
          have pG := Lh (qG.out.trans (q.mono qG.out.size))
          clear q
          go_wp2_with fail
          refine (works_t U14 (HT.out.below pG.out) (HH.out.below pG.out)).mono ?_
          rintro e U15 ⟨rfl, q⟩
          have yL := Lh (pG.out.trans (q.mono pG.out.size))
          clear q
          go_wp2_with fail
          go_ret
          exact ⟨rfl, yL.out⟩
theorem lifted (os:Os) (started:os.Started) (H:Type) (enc:TypeId×Value→H):
  ReturnsInHanded {} Tryz.checked os 9 .any (fun w args=>(Rows.optKnownSpec.pre enc Tryz.prog Tryz.f9 [] false w args∧laidMetH Tryz.prog laid1 w)∧sizedMet enc Tryz.prog Tryz.f9 (OpenSpec.ofChange Rows.optKnownSpec) false w args)
   (Rows.optKnownSpec.post enc Tryz.prog Tryz.f9 false true false false):=by
 refine returnsInHanded_of_change_and (C:=Tryz.checked) (X:=fun w _=>laidMetH Tryz.prog laid1 w) (fun _ _ _ hh h=>h.of_heap hh) own started (by kernel_rfl) Tryz.func9
  (ChangeSpec.witness_shaped (enc:=enc) (C:=Tryz.checked) (os:=os) (X:=fun w _=>laidMetH Tryz.prog laid1 w) false (World.doorLaid Tryz.prog 400 os) #[] 8 rfl (World.shaped_of_RefB (by kernel_rfl) (by kernel_rfl)) (by kernel_rfl) (by kernel_rfl) (by kernel_rfl) (door_met os _)) ?_
 intro W base args ds gs before hval0 hW hcnd hsz0 hL _
 have hsz:(DataW.weightsEach Tryz.prog (Tryz.f9.params.toList++Rows.optKnownSpec.plain.varTypes Tryz.prog) (ds++gs)).all (·≤reachBytes)=true:=hsz0
 have ht:=table_of hL
 have hval:∀(j:Nat) t v,Tryz.f9.params[j]?=some t→args[j]?=some v→Value.okWide Tryz.prog W .any base t v:=hval0
 have hW':=hW
 obtain ⟨p,q,hA0,hV,rfl,hfz,hnd⟩:=hW
 have hA:DataW.TrodAll enc Tryz.prog W 0 (fun _=>true) true Tryz.f9.params.toList args.toList ds p:=hA0
 rw [Tryz.params9] at hA hval hsz
 obtain ⟨rfl,rfl,rfl⟩:=trodAll_none hA
 obtain ⟨rfl,rfl⟩:=trodVars_none hV
 clear hA0 hval0
 simp only [List.append_nil] at hW'
 refine (walk  W ht).mono fun e W' ⟨he,bel⟩=>?_
 subst he
 exact ⟨_,rfl,_,_,_,[],_,[],hW',trodAll_mk1 (shut_bool Tryz.underlying4 _),rfl,rfl,bel.frame _,fun h=>by cases h⟩
theorem over:Rows.OptKnownSaid:=
 OpenClaim.holds_of_wide 9 Tryz.f9 rfl rfl rfl rfl rfl rfl rfl ⟨rfl,rfl,rfl,rfl,rfl⟩ rfl rfl rfl rfl rfl (by kernel_rfl) Tryz.func9 (by kernel_rfl)
  (of_decide_eq_true (by kernel_rfl)) (by unfold Func.isWrapper;first | (rw [if_pos (by decide+kernel)];kernel_rfl) | (rw [if_neg (by decide+kernel)];exact ⟨rfl,rfl⟩))
  (fun os started H enc _=>lifted os started H enc)
theorem proved:Rows.OptKnownCardSaid:=
 Claim7.holds_tied_plain_at .later [] [.handle,.data] true _ true
  over (fun _ h=>by cases h) (by kernel_rfl) (fun _ h=>by cases h) optKnown_row_tie rfl ⟨rfl,rfl⟩ (by kernel_rfl) rfl
  (fun f fn hf hfn=>by
   obtain rfl:f=9:=Option.some.inj ((show Tryz.prog.funcNamed "plait/plaitlaw14.OptKnown"=some 9 by kernel_rfl).symm.trans hf) |>.symm
   obtain rfl:fn=Tryz.f9:=(Option.some.inj (Tryz.func9.symm.trans hfn)).symm
   exact ⟨by kernel_rfl,fun j t ht=>by
    rw [Tryz.params9] at ht
    simp at ht⟩)
  (by kernel_rfl)
#print axioms proved
end Go.Proofs.YtnlhhjhidkjlbaaGreatDoor.L14.optKnown
