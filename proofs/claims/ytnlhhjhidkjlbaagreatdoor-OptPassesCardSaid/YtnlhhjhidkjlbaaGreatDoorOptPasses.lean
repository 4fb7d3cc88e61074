/-
  Items of other kinds, and of unknown subtypes, wherever they stand among options, are passed over; each option is told, in order (statement OptPasses, promises P14.3, P14.4), of all rows of drafts, foreign bodies, kinds and places, without condition but the variables' own initial values, which the card ties to the program's text.
-/
import Derived.Test.YtnlhhjhidkjlbaaGreatDoorRedBase
import Derived.Test.YtnlhhjhidkjlbaaGreatDoorRedOpt1
import Derived.Deep.CutBlock
set_option maxHeartbeats 4000000
set_option maxRecDepth 100000
set_option linter.unusedVariables false
set_option linter.unusedSimpArgs false
namespace Go.Proofs.YtnlhhjhidkjlbaaGreatDoor.L14.optPasses
open Go Go.ChangeShapes Go.WideShapes Go.ChangeAt Go.RowKit
theorem walk (vl : Value) (l : List Dr) (s : ByteArray) (kd : Int) (hkd : 0 ≤ kd ∧ kd ≤ 255) (ka : Int) (hka : 0 ≤ ka ∧ ka ≤ 255) (w : World) (hl : yS w vl l) (ht : L10.Tbl w ∧ Hnd w) :
    Calls Tryz.prog 8 #[vl, .string s, .int .u8 kd, .int .u8 ka] w (Rt w (.bool true)) := by
  have HT := Lh ht.1
  have HH := Lh ht.2
  have HL := Lh hl
  obtain ⟨n0, rfl⟩ := Int.eq_ofNat_of_zero_le hkd.1
  obtain ⟨n1, rfl⟩ := Int.eq_ofNat_of_zero_le hka.1
  have HN0 := Lh (show n0 ≤ 255 by omega)
  have HN1 := Lh (show n1 ≤ 255 by omega)
  obtain ⟨m0, F, eF0, mF0, lF0, zF⟩ := front4 s
  have HFZ := Lh zF
  obtain ⟨q, hq⟩ : ∃ q, n0 % 254 = q := ⟨_, rfl⟩
  obtain ⟨r, hr⟩ : ∃ r, n0 % 7 = r := ⟨_, rfl⟩
  have HQ := Lh hq
  have HR := Lh hr
  obtain ⟨K0, hK⟩ : ∃ K : Int, (2 : Int) + (q : Int) = K := ⟨_, rfl⟩
  have HK0 := Lh (show 2 ≤ K0 ∧ K0 ≤ 255 by have := Nat.mod_lt n0 (show 0 < 254 by decide); omega)
  have HKK := Lh hK
  obtain ⟨C, hC⟩ : ∃ C : UInt8, C.toNat = 144 + r * 16 := ⟨UInt8.ofNat (144 + r * 16), by rw [UInt8.toNat_ofNat']; have := Nat.mod_lt n0 (show 0 < 7 by decide); omega⟩
  have HC := Lh hC
  obtain ⟨T2, hT2⟩ : ∃ T, T = txt [C] ++ F := ⟨_, rfl⟩
  have HT2 := Lh hT2
  obtain ⟨p, cap, hv, hlc, hcap, hc⟩ := hl
  subst hv
  clear ht hkd hka zF hq hr hK hC hT2 hc
  have eF := eF0
  have mF := mF0
  have lF := lF0
  clear eF0 mF0 lF0
  go_enter Tryz.func8, Tryz.ntmps8
  go_wp2_with fail
  refine (works_t w (HT.out.below (Below.refl _ w)) (HH.out.below (Below.refl _ w))).mono ?_
  rintro e U1 ⟨rfl, q⟩
  have xN := Lh (q)
  clear q
  go_upto_region 4 with fail
  have hbts : Bts (U1.alloc (.cells #[.int .u8 (C.toNat : Int)] 5)) U1.heap.size [C] := by
    have hb := Blk.new U1 5 #[.int .u8 (C.toNat : Int)]
    refine ⟨hb.lt, fun j hj => ?_⟩
    have hj0 : j = 0 := by have : j < 1 := hj; omega
    subst hj0
    exact ⟨hb.cell 0, hb.frozen 0⟩
  have hcv : (convert 61 9 (.slice (some ⟨U1.heap.size, 0, none⟩) 1 1)).run Tryz.prog (U1.alloc (.cells #[.int .u8 (C.toNat : Int)] 5)) = .ok (.string (txt [C])) (U1.alloc (.cells #[.int .u8 (C.toNat : Int)] 5)) := bytes_text _ _ 1 1 [C] hbts rfl
  clear hbts
  go_upto_region 5 with (first
        | (refine gK rfl (.int .i64 (n0 : Int)) (aV (v := .int .u8 (n0 : Int)) 5 3 (.tmp 33) rfl (by kernel_rfl) (conv_b n0 HN0.out _)) ?_)
        | (refine gK rfl (.int .i64 (q : Int)) (ex_rem 3 3 (.tmp 34) (.const (.int .i64 254)) n0 254 q (by decide) (by decide) HQ.out (ho := rfl)) ?_)
        | (refine gK rfl (.int .i64 K0) (ex_add64 3 3 (.const (.int .i64 2)) (.tmp 35) 2 (q : Int) K0 HKK.out (by have := HK0.out; omega) (ho := rfl)) ?_)
        | (refine buildI rfl #[(0, .tmp 36), (1, .tmp 37)] rfl (K0, F) (by intro w; kernel_rfl) ?_)
        | (refine gK rfl (.int .u8 (r : Int)) (qM 5 5 (.tmp 39) (.const (.int .u8 7)) rfl n0 7 r (by kernel_rfl) (by kernel_rfl) (by kernel_rfl) (by decide) HR.out) ?_)
        | (refine gK rfl (.int .u8 ((r * 16 : Nat) : Int)) (ex_mul8 5 5 (.tmp 40) (.const (.int .u8 16)) (r : Int) 16 ((r * 16 : Nat) : Int) (by omega) (by have := HC.out; have := C.toNat_lt; omega) (ho := rfl)) ?_)
        | (refine gK rfl (.int .u8 (C.toNat : Int)) (wQ 5 5 (.const (.int .u8 144)) (.tmp 41) 144 ((r * 16 : Nat) : Int) (C.toNat : Int) (by rw [HC.out]; omega) (by have := C.toNat_lt; omega) (ho := rfl)) ?_)
        | (refine gK rfl (.string T2) (ex_strcat 9 9 (.tmp 44) (.tmp 45) rfl (txt [C]) F T2 (by kernel_rfl) (by kernel_rfl) (by rw [aN]; show ((1 : Nat) : Int) ≤ 8388608; omega) (by have := HFZ.out; omega) HT2.out) ?_)
        | (refine buildI rfl #[(0, .const (.int .i64 30)), (1, .tmp 46)] rfl (30, T2) (by intro w; kernel_rfl) ?_))
  clear hcv
  obtain ⟨g9, hg⟩ : ∃ g, g = U1.heap.size + 1 := ⟨_, rfl⟩
  obtain ⟨V, hV⟩ := eqx ((U1.alloc (.cells #[.int .u8 (C.toNat : Int)] 5)).alloc (.cells #[.int .i64 K0, .string F, .int .i64 30, .string T2] 53))
  have HO := Lh (show Blk V g9 53 #[.int .i64 K0, .string F, .int .i64 30, .string T2] by rw [hV, hg]; have := Blk.new (U1.alloc (.cells #[.int .u8 (C.toNat : Int)] 5)) 53 #[.int .i64 K0, .string F, .int .i64 30, .string T2]; simpa using this)
  have HBV := Lh (show Below w.heap.size w V by rw [hV]; exact (xN.out.alloc xN.out.size _).alloc (by have := xN.out.size; simp; omega) _)
  have HGL := Lh (show w.heap.size ≤ g9 by rw [hg]; have := xN.out.size; omega)
  rw [← hV, ← hg]
  clear hV hg
  obtain ⟨B, hB⟩ : ∃ B : Bool, (K0 == 30) = B := ⟨_, rfl⟩
  have HBK := Lh hB
  have co := (HO.out.cell 0).trans (show _ = some (Value.int .i64 K0) by kernel_rfl)
  have fz := HO.out.frozen 0
  obtain ⟨CU1, hCU1⟩ : ∃ pp : Exit → Act → World → Prop, pp = (fun e a' wx => e = .normal ∧ a' = ⟨List.toArray (Value.slice p l.length cap :: Value.string F :: Value.int .u8 (n0 : Int) :: Value.int .u8 (n1 : Int) :: undef :: undef :: undef :: undef :: Value.bool false :: Value.slice (some ⟨g9, 0, none⟩) 2 2 :: undef :: undef :: undef :: undef :: undef :: undef :: undef :: undef :: undef :: undef :: undef :: undef :: undef :: undef :: undef :: undef :: Value.bool true :: Value.bool false :: Value.string s :: Value.string s :: Value.int .i64 (s.size : Int) :: Value.int .i64 (m0 : Int) :: Value.string F :: Value.int .u8 (n0 : Int) :: Value.int .i64 (n0 : Int) :: Value.int .i64 (q : Int) :: Value.int .i64 K0 :: Value.string F :: Value.agg (itv (K0, F)) :: Value.int .u8 (n0 : Int) :: Value.int .u8 (r : Int) :: Value.int .u8 ((r * 16 : Nat) : Int) :: Value.int .u8 (C.toNat : Int) :: Value.slice (some ⟨U1.heap.size, 0, none⟩) 1 1 :: Value.string (txt [C]) :: Value.string F :: Value.string T2 :: Value.agg (itv (30, T2)) :: Value.slice (some ⟨g9, 0, none⟩) 2 2 :: Value.slice (some ⟨g9, 0, none⟩) 2 2 :: Value.pointer (some ⟨g9, 0, none⟩) :: Value.pointer (some ⟨g9, 0, none⟩) :: Value.int .i64 K0 :: Value.bool B :: undef :: undef :: undef :: undef :: undef :: undef :: undef :: undef :: undef :: undef :: undef :: undef :: undef :: undef :: undef :: undef :: undef :: undef :: undef :: undef :: undef :: undef :: undef :: undef :: undef :: undef :: undef :: undef :: undef :: undef :: undef :: undef :: undef :: undef :: undef :: undef :: undef :: undef :: undef :: undef :: undef :: undef :: undef :: undef :: undef :: undef :: undef :: undef :: undef :: undef :: undef :: undef :: undef :: undef :: undef :: undef :: undef :: undef :: undef :: undef :: undef :: undef :: undef :: undef :: undef :: undef :: undef :: undef :: undef :: undef :: undef :: undef :: undef :: undef :: undef :: undef :: undef :: undef :: undef :: undef :: undef :: undef :: undef :: undef :: undef :: undef :: undef :: undef :: undef :: undef :: undef :: undef :: undef :: undef :: undef :: undef :: undef :: undef :: undef :: undef :: undef :: undef :: undef :: undef :: undef :: undef :: undef :: undef :: undef :: undef :: undef :: undef :: undef :: undef :: []), []⟩ ∧ wx = V) := ⟨_, rfl⟩
  have HCU1 := Lh hCU1
  clear hCU1
  refine Code.wp_mono (Q := CU1) ?_ ?_
  · skip
    intro e a' wx h
    rw [HCU1.out] at h
    obtain ⟨rfl, rfl, rfl⟩ := h
    refine ‹∀ (a : Act) (w : World), Code.wp _ (Code.cond _ _ _) _ a w → _› _ _ ?_
    obtain ⟨CU2, hCU2⟩ : ∃ pp : Exit → Act → World → Prop, pp = (fun e a' wx => (e = .normal ∧ ∃ (x54 x55 x56 : Value) (K1 : Int), a' = ⟨List.toArray (Value.slice p l.length cap :: Value.string F :: Value.int .u8 (n0 : Int) :: Value.int .u8 (n1 : Int) :: undef :: undef :: undef :: undef :: Value.bool false :: Value.slice (some ⟨g9, 0, none⟩) 2 2 :: undef :: undef :: undef :: undef :: undef :: undef :: undef :: undef :: undef :: undef :: undef :: undef :: undef :: undef :: undef :: undef :: Value.bool true :: Value.bool false :: Value.string s :: Value.string s :: Value.int .i64 (s.size : Int) :: Value.int .i64 (m0 : Int) :: Value.string F :: Value.int .u8 (n0 : Int) :: Value.int .i64 (n0 : Int) :: Value.int .i64 (q : Int) :: Value.int .i64 K0 :: Value.string F :: Value.agg (itv (K0, F)) :: Value.int .u8 (n0 : Int) :: Value.int .u8 (r : Int) :: Value.int .u8 ((r * 16 : Nat) : Int) :: Value.int .u8 (C.toNat : Int) :: Value.slice (some ⟨U1.heap.size, 0, none⟩) 1 1 :: Value.string (txt [C]) :: Value.string F :: Value.string T2 :: Value.agg (itv (30, T2)) :: Value.slice (some ⟨g9, 0, none⟩) 2 2 :: Value.slice (some ⟨g9, 0, none⟩) 2 2 :: Value.pointer (some ⟨g9, 0, none⟩) :: Value.pointer (some ⟨g9, 0, none⟩) :: Value.int .i64 K0 :: Value.bool B :: x54 :: x55 :: x56 :: undef :: undef :: undef :: undef :: undef :: undef :: undef :: undef :: undef :: undef :: undef :: undef :: undef :: undef :: undef :: undef :: undef :: undef :: undef :: undef :: undef :: undef :: undef :: undef :: undef :: undef :: undef :: undef :: undef :: undef :: undef :: undef :: undef :: undef :: undef :: undef :: undef :: undef :: undef :: undef :: undef :: undef :: undef :: undef :: undef :: undef :: undef :: undef :: undef :: undef :: undef :: undef :: undef :: undef :: undef :: undef :: undef :: undef :: undef :: undef :: undef :: undef :: undef :: undef :: undef :: undef :: undef :: undef :: undef :: undef :: undef :: undef :: undef :: undef :: undef :: undef :: undef :: undef :: undef :: undef :: undef :: undef :: undef :: undef :: undef :: undef :: undef :: undef :: undef :: undef :: undef :: undef :: undef :: undef :: undef :: undef :: undef :: undef :: undef :: undef :: undef :: undef :: undef :: undef :: undef :: undef :: undef :: undef :: undef :: undef :: undef :: []), []⟩ ∧ Blk wx g9 53 #[.int .i64 K1, .string F, .int .i64 30, .string T2] ∧ Below w.heap.size w wx ∧ (2 ≤ K1 ∧ K1 ≤ 255 ∧ K1 ≠ 30))) := ⟨_, rfl⟩
    have HCU2 := Lh hCU2
    clear hCU2
    refine Code.wp_mono (Q := CU2) ?_ ?_
    · skip
      intro e a' wx h
      rw [HCU2.out] at h
      obtain ⟨rfl, x54, x55, x56, K1, rfl, hO, hW, hK1⟩ := h
      have HO1 := Lh hO
      have HBX := Lh hW
      have HK1 := Lh hK1
      clear hO hW hK1 co fz HO HBV HBK hB
      obtain ⟨OD, hOD⟩ : ∃ l : List L4.It, l = [(K1, F), (30, T2)] := ⟨_, rfl⟩
      have HRO := Lh (show L4.Row wx (.slice (some ⟨g9, 0, none⟩) 2 2) OD from by rw [hOD]; exact L4.Row.xG 2 2 rfl (Nat.le_refl _) (by decide) (show Blk wx g9 53 (L4.cellsOf [(K1, F), (30, T2)]).toArray from HO1.out))
      have HT5 := Lh (show T2.size ≤ 5 by rw [HT2.out, ByteArray.size_append, aN]; have := HFZ.out; show 1 + F.size ≤ 5; omega)
      have HMY := Lh (show L4.may (K1, F) = true ∧ L4.may (30, T2) = true from ⟨(L4.gY _).2 ⟨HK1.out.1, HK1.out.2.1, by have := HFZ.out; show F.size ≤ 253; omega⟩, (L4.gY _).2 ⟨by show (2 : Int) ≤ 30; decide, by show (30 : Int) ≤ 255; decide, by have := HT5.out; show T2.size ≤ 253; omega⟩⟩)
      obtain ⟨N0, hN0⟩ : ∃ n : Nat, n = L4.pad (L4.wide OD) := ⟨_, rfl⟩
      have hwd : L4.wide OD = 2 + F.size + (2 + T2.size + 0) := by rw [hOD]; rfl
      have HWD := Lh (show L4.wide OD ≤ N0 ∧ N0 ≤ 20 by have h0 := L4.xW (L4.wide OD); have := HFZ.out; have := HT5.out; rw [hN0]; omega)
      have HSZ := Lh (show L4.sized OD = ((N0 : Int), 0) by rw [L4.lN OD (by rw [hOD]; simp [HMY.out.1, HMY.out.2]) (by have := HWD.out; omega), hN0])
      have HOS := Lh (show ∀ y ∈ OD, y.2.size ≤ 140737488355328 by
        rw [hOD]
        intro y hy
        have := HFZ.out
        have := HT5.out
        rcases List.mem_cons.1 hy with rfl | hy
        · show F.size ≤ _; omega
        · rw [List.mem_singleton.1 hy]; show T2.size ≤ _; omega)
      have HOL := Lh (show OD.length = 2 by rw [hOD]; rfl)
      have HOD := Lh hOD
      clear hwd hN0 hOD
      go_wp2_with fail
      refine (L4.Size_any _ OD ((N0 : Int), 0) wx HRO.out HOS.out (by rw [HOL.out]; decide) HSZ.out).mono ?_
      rintro e U2 ⟨rfl, q⟩
      have HRO2 := Lh (L4.Row.below HRO.out q)
      have yH := Lh (HBX.out.trans (q.mono HBX.out.size))
      clear q
      go_upto_block 0 with fail
      obtain ⟨CU3, hCU3⟩ : ∃ pp : Exit → Act → World → Prop, pp = (fun e a' wx => (e = .normal ∧ ∃ (vo vi : Value) (lo : List Op), a' = ⟨List.toArray (Value.slice p l.length cap :: Value.string F :: Value.int .u8 (n0 : Int) :: Value.int .u8 (n1 : Int) :: undef :: undef :: undef :: undef :: a'.tmps.getD 8 undef :: Value.slice (some ⟨g9, 0, none⟩) 2 2 :: vo :: vi :: a'.tmps.getD 12 undef :: a'.tmps.getD 13 undef :: a'.tmps.getD 14 undef :: a'.tmps.getD 15 undef :: undef :: undef :: undef :: undef :: undef :: undef :: undef :: undef :: undef :: undef :: Value.bool true :: Value.bool false :: Value.string s :: Value.string s :: Value.int .i64 (s.size : Int) :: Value.int .i64 (m0 : Int) :: Value.string F :: Value.int .u8 (n0 : Int) :: Value.int .i64 (n0 : Int) :: Value.int .i64 (q : Int) :: Value.int .i64 K0 :: Value.string F :: Value.agg (itv (K0, F)) :: Value.int .u8 (n0 : Int) :: Value.int .u8 (r : Int) :: Value.int .u8 ((r * 16 : Nat) : Int) :: Value.int .u8 (C.toNat : Int) :: Value.slice (some ⟨U1.heap.size, 0, none⟩) 1 1 :: Value.string (txt [C]) :: Value.string F :: Value.string T2 :: Value.agg (itv (30, T2)) :: Value.slice (some ⟨g9, 0, none⟩) 2 2 :: Value.slice (some ⟨g9, 0, none⟩) 2 2 :: Value.pointer (some ⟨g9, 0, none⟩) :: Value.pointer (some ⟨g9, 0, none⟩) :: Value.int .i64 K0 :: Value.bool B :: x54 :: x55 :: x56 :: Value.slice (some ⟨g9, 0, none⟩) 2 2 :: Value.int .i64 (N0 : Int) :: a'.tmps.getD 59 undef :: a'.tmps.getD 60 undef :: a'.tmps.getD 61 undef :: a'.tmps.getD 62 undef :: a'.tmps.getD 63 undef :: a'.tmps.getD 64 undef :: a'.tmps.getD 65 undef :: a'.tmps.getD 66 undef :: a'.tmps.getD 67 undef :: a'.tmps.getD 68 undef :: a'.tmps.getD 69 undef :: a'.tmps.getD 70 undef :: a'.tmps.getD 71 undef :: a'.tmps.getD 72 undef :: a'.tmps.getD 73 undef :: a'.tmps.getD 74 undef :: a'.tmps.getD 75 undef :: a'.tmps.getD 76 undef :: a'.tmps.getD 77 undef :: a'.tmps.getD 78 undef :: a'.tmps.getD 79 undef :: a'.tmps.getD 80 undef :: a'.tmps.getD 81 undef :: a'.tmps.getD 82 undef :: a'.tmps.getD 83 undef :: a'.tmps.getD 84 undef :: a'.tmps.getD 85 undef :: a'.tmps.getD 86 undef :: a'.tmps.getD 87 undef :: a'.tmps.getD 88 undef :: a'.tmps.getD 89 undef :: a'.tmps.getD 90 undef :: a'.tmps.getD 91 undef :: a'.tmps.getD 92 undef :: a'.tmps.getD 93 undef :: a'.tmps.getD 94 undef :: a'.tmps.getD 95 undef :: a'.tmps.getD 96 undef :: a'.tmps.getD 97 undef :: a'.tmps.getD 98 undef :: a'.tmps.getD 99 undef :: undef :: undef :: undef :: undef :: undef :: undef :: undef :: undef :: undef :: undef :: undef :: undef :: undef :: undef :: undef :: undef :: undef :: undef :: undef :: undef :: undef :: undef :: undef :: undef :: undef :: undef :: undef :: undef :: undef :: undef :: undef :: undef :: undef :: undef :: undef :: undef :: undef :: undef :: undef :: undef :: undef :: undef :: undef :: undef :: undef :: undef :: undef :: undef :: undef :: undef :: undef :: undef :: undef :: undef :: undef :: undef :: undef :: undef :: undef :: undef :: undef :: undef :: undef :: undef :: undef :: undef :: undef :: undef :: []), []⟩ ∧ Two U2.heap.size wx vo vi lo (lo.map it) ∧ (∀ x ∈ lo, x.Ok ∧ jH x) ∧ N0 + L4.wide (lo.map it) ≤ 40 ∧ lo.length ≤ 8 ∧ Below w.heap.size w wx ∧ L4.Row wx (.slice (some ⟨g9, 0, none⟩) 2 2) OD)) := ⟨_, rfl⟩
      have HCU3 := Lh hCU3
      clear hCU3
      refine Code.wp_mono (Q := CU3) ?_ ?_
      · skip
        intro e a2 wy h
        rw [HCU3.out] at h
        obtain ⟨rfl, vo, vi, lo, ha, htw, hok, h40, hl8, hW, hro⟩ := h
        obtain ⟨f, hf⟩ : ∃ f : Nat → Value, a2 = ⟨List.toArray (Value.slice p l.length cap :: Value.string F :: Value.int .u8 (n0 : Int) :: Value.int .u8 (n1 : Int) :: undef :: undef :: undef :: undef :: f 8 :: Value.slice (some ⟨g9, 0, none⟩) 2 2 :: vo :: vi :: f 12 :: f 13 :: f 14 :: f 15 :: undef :: undef :: undef :: undef :: undef :: undef :: undef :: undef :: undef :: undef :: Value.bool true :: Value.bool false :: Value.string s :: Value.string s :: Value.int .i64 (s.size : Int) :: Value.int .i64 (m0 : Int) :: Value.string F :: Value.int .u8 (n0 : Int) :: Value.int .i64 (n0 : Int) :: Value.int .i64 (q : Int) :: Value.int .i64 K0 :: Value.string F :: Value.agg (itv (K0, F)) :: Value.int .u8 (n0 : Int) :: Value.int .u8 (r : Int) :: Value.int .u8 ((r * 16 : Nat) : Int) :: Value.int .u8 (C.toNat : Int) :: Value.slice (some ⟨U1.heap.size, 0, none⟩) 1 1 :: Value.string (txt [C]) :: Value.string F :: Value.string T2 :: Value.agg (itv (30, T2)) :: Value.slice (some ⟨g9, 0, none⟩) 2 2 :: Value.slice (some ⟨g9, 0, none⟩) 2 2 :: Value.pointer (some ⟨g9, 0, none⟩) :: Value.pointer (some ⟨g9, 0, none⟩) :: Value.int .i64 K0 :: Value.bool B :: x54 :: x55 :: x56 :: Value.slice (some ⟨g9, 0, none⟩) 2 2 :: Value.int .i64 (N0 : Int) :: f 59 :: f 60 :: f 61 :: f 62 :: f 63 :: f 64 :: f 65 :: f 66 :: f 67 :: f 68 :: f 69 :: f 70 :: f 71 :: f 72 :: f 73 :: f 74 :: f 75 :: f 76 :: f 77 :: f 78 :: f 79 :: f 80 :: f 81 :: f 82 :: f 83 :: f 84 :: f 85 :: f 86 :: f 87 :: f 88 :: f 89 :: f 90 :: f 91 :: f 92 :: f 93 :: f 94 :: f 95 :: f 96 :: f 97 :: f 98 :: f 99 :: undef :: undef :: undef :: undef :: undef :: undef :: undef :: undef :: undef :: undef :: undef :: undef :: undef :: undef :: undef :: undef :: undef :: undef :: undef :: undef :: undef :: undef :: undef :: undef :: undef :: undef :: undef :: undef :: undef :: undef :: undef :: undef :: undef :: undef :: undef :: undef :: undef :: undef :: undef :: undef :: undef :: undef :: undef :: undef :: undef :: undef :: undef :: undef :: undef :: undef :: undef :: undef :: undef :: undef :: undef :: undef :: undef :: undef :: undef :: undef :: undef :: undef :: undef :: undef :: undef :: undef :: undef :: undef :: []), []⟩ := ⟨fun i => a2.tmps.getD i undef, ha⟩
        clear ha
        subst hf
        have HOK := Lh hok
        have H40 := Lh h40
        have HBY := Lh hW
        have HOI := Lh htw.i
        have HOO := Lh htw.o
        have HRV := Lh (L4.Row.pK HOI.out rfl)
        have HRW := Lh (dJ.pK HOO.out)
        have HR2 := Lh hro
        clear hok h40 hW htw hro
        obtain ⟨K, hK⟩ := eqx lo.length
        have HKL := Lh hK
        obtain ⟨p2, c2, e2, h2c, h2m, -⟩ := id HRV.out
        obtain ⟨p3, c3, e3, h3c, h3m, -⟩ := id HRW.out
        rw [List.length_map, ← hK] at e2 h2c
        rw [← hK] at e3 h3c hl8
        subst e2
        subst e3
        clear hK h3c h3m h2m
        obtain ⟨k, hk⟩ : ∃ k, n1 % (K + 1) = k := ⟨_, rfl⟩
        have HKM := Lh hk
        have hkK : k ≤ K := by have := Nat.mod_lt n1 (show 0 < K + 1 by omega); omega
        clear hk
        have hK8 : (K : Int) ≤ 8 := by omega
        go_upto_region 21 with (first
          | (refine gK rfl (.int .i64 (n1 : Int)) (aV (v := .int .u8 (n1 : Int)) 5 3 (.tmp 100) rfl (by kernel_rfl) (conv_b n1 HN1.out _)) ?_)
          | (refine gK rfl (.int .i64 (k : Int)) (ex_rem 3 3 (.tmp 101) (.tmp 104) n1 (K + 1) k (by omega) (by omega) HKM.out (ho := rfl)) ?_))
        have HSF := Lh (fun W => slice_front_i W p2 K k c2 (by omega))
        have HSB := Lh (fun W => slice_back_i W p2 K k c2 hkK h2c)
        have HR1 := Lh (show L4.Row wy (.slice p2 k c2) ((lo.map it).take k) from L4.kS.take HRV.out k (by rw [List.length_map, ← HKL.out]; exact hkK))
        have HR3 := Lh (show L4.Row wy (.slice (bk p2 c2 k) (K - k) (c2 - k)) ((lo.map it).drop k) from Row_back HRV.out k hkK)
        refine dK (n := 12) rfl ?_
        intro Z0 B0
        refine stF 1 (.slice p2 K c2) rfl B0 (stF 2 (.int .i64 (k : Int)) rfl B0 (stG 3 (.slice p2 k c2) rfl B0 (fun W _ => iQ (v := .slice p2 K c2) (hv := .int .i64 (k : Int)) 72 (.tmp 107) (.tmp 108) (by kernel_rfl) (by kernel_rfl) (by kernel_rfl) (HSF.out W)) (stF 5 (.slice (some ⟨g9, 0, none⟩) 2 2) rfl B0 (stF 7 (.slice p2 K c2) rfl B0 (stF 8 (.int .i64 (k : Int)) rfl B0 (stG 9 (.slice (bk p2 c2 k) (K - k) (c2 - k)) rfl B0 (fun W _ => ex_slice_back (v := .slice p2 K c2) (lv := .int .i64 (k : Int)) 72 (.tmp 113) (.tmp 114) (by kernel_rfl) (by kernel_rfl) (by kernel_rfl) (HSB.out W)) ?_))))))
        obtain ⟨g0, hg0⟩ : ∃ g, g = Z0.heap.size := ⟨_, rfl⟩
        obtain ⟨Z1, hZ1⟩ : ∃ Z, Z = Z0.alloc (.cells #[] 53) := ⟨_, rfl⟩
        have HO0 := Lh (show vZ wy.heap.size Z1 (.slice (some ⟨g0, 0, none⟩) 0 0) [] by rw [hZ1, hg0]; exact World.ownsRow_made Z0 #[] 0 B0.size (Nat.zero_le _) rfl)
        have B1 : Below wy.heap.size wy Z1 := by rw [hZ1]; exact B0.alloc B0.size _
        refine rJ (v := .slice (some ⟨g0, 0, none⟩) 0 0) (w' := Z1) 0 rfl (by kernel_rfl) (by kernel_rfl) (by rw [hZ1, hg0]; exact ex_built_none Z0) B1 ?_
        clear hZ1 hg0 B0
        have hlm : (lo.map it).length = K := by rw [List.length_map]; exact HKL.out.symm
        have ht1 : ((lo.map it).take k).length ≤ 8 := by rw [List.length_take]; omega
        have ht3 : ((lo.map it).drop k).length ≤ 8 := by rw [List.length_drop]; omega
        have ho2 := HOL.out
        refine mJ (i := 4) rfl (by kernel_rfl) (by kernel_rfl) (mP (P' := ()) (.tmp 106) (.tmp 109) rfl wy.heap.size (.slice (some ⟨g0, 0, none⟩) 0 0) ([]) ((lo.map it).take k) (by kernel_rfl) HO0.out B1.size (.slice p2 k c2) (L4.Row.below HR1.out B1) (by kernel_rfl) (by simp only [List.length_nil]; omega) ?_)
        intro v1 Z2 tZ2 gZ2
        have HO1_ := Lh tZ2
        have B2 := B1.grown gZ2 B1.size (jF HO0.out)
        refine ⟨B2, ?_⟩
        clear tZ2 gZ2
        refine mJ (i := 6) rfl (by kernel_rfl) (by kernel_rfl) (mP (P' := ()) (.tmp 110) (.tmp 111) rfl wy.heap.size (v1) ([] ++ (lo.map it).take k) (OD) (by kernel_rfl) HO1_.out B2.size (.slice (some ⟨g9, 0, none⟩) 2 2) (L4.Row.below HR2.out B2) (by kernel_rfl) (by simp only [List.length_append, List.length_nil]; omega) ?_)
        intro v2 Z3 tZ3 gZ3
        have HO2_ := Lh tZ3
        have B3 := B2.grown gZ3 B2.size (jF HO1_.out)
        refine ⟨B3, ?_⟩
        clear tZ3 gZ3
        refine mJ (i := 10) rfl (by kernel_rfl) (by kernel_rfl) (mP (P' := ()) (.tmp 112) (.tmp 115) rfl wy.heap.size (v2) ([] ++ (lo.map it).take k ++ OD) ((lo.map it).drop k) (by kernel_rfl) HO2_.out B3.size (.slice (bk p2 c2 k) (K - k) (c2 - k)) (L4.Row.below HR3.out B3) (by kernel_rfl) (by simp only [List.length_append, List.length_nil]; omega) ?_)
        intro v3 Z4 tZ4 gZ4
        have HO3_ := Lh tZ4
        have B4 := B3.grown gZ4 B3.size (jF HO2_.out)
        refine ⟨B4, ?_⟩
        clear tZ4 gZ4
        refine stF 11 v3 rfl B4 ?_
        refine bJ ⟨List.toArray (Value.slice p l.length cap :: Value.string F :: Value.int .u8 (n0 : Int) :: Value.int .u8 (n1 : Int) :: undef :: undef :: undef :: undef :: f 8 :: Value.slice (some ⟨g9, 0, none⟩) 2 2 :: Value.slice p3 K c3 :: Value.slice p2 K c2 :: f 12 :: f 13 :: f 14 :: f 15 :: Value.int .i64 (k : Int) :: v3 :: undef :: undef :: undef :: undef :: undef :: undef :: undef :: undef :: Value.bool true :: Value.bool false :: Value.string s :: Value.string s :: Value.int .i64 (s.size : Int) :: Value.int .i64 (m0 : Int) :: Value.string F :: Value.int .u8 (n0 : Int) :: Value.int .i64 (n0 : Int) :: Value.int .i64 (q : Int) :: Value.int .i64 K0 :: Value.string F :: Value.agg (itv (K0, F)) :: Value.int .u8 (n0 : Int) :: Value.int .u8 (r : Int) :: Value.int .u8 ((r * 16 : Nat) : Int) :: Value.int .u8 (C.toNat : Int) :: Value.slice (some ⟨U1.heap.size, 0, none⟩) 1 1 :: Value.string (txt [C]) :: Value.string F :: Value.string T2 :: Value.agg (itv (30, T2)) :: Value.slice (some ⟨g9, 0, none⟩) 2 2 :: Value.slice (some ⟨g9, 0, none⟩) 2 2 :: Value.pointer (some ⟨g9, 0, none⟩) :: Value.pointer (some ⟨g9, 0, none⟩) :: Value.int .i64 K0 :: Value.bool B :: x54 :: x55 :: x56 :: Value.slice (some ⟨g9, 0, none⟩) 2 2 :: Value.int .i64 (N0 : Int) :: f 59 :: f 60 :: f 61 :: f 62 :: f 63 :: f 64 :: f 65 :: f 66 :: f 67 :: f 68 :: f 69 :: f 70 :: f 71 :: f 72 :: f 73 :: f 74 :: f 75 :: f 76 :: f 77 :: f 78 :: f 79 :: f 80 :: f 81 :: f 82 :: f 83 :: f 84 :: f 85 :: f 86 :: f 87 :: f 88 :: f 89 :: f 90 :: f 91 :: f 92 :: f 93 :: f 94 :: f 95 :: f 96 :: f 97 :: f 98 :: f 99 :: Value.int .u8 (n1 : Int) :: Value.int .i64 (n1 : Int) :: Value.slice p2 K c2 :: Value.int .i64 (K : Int) :: Value.int .i64 ((K : Int) + 1) :: Value.int .i64 (k : Int) :: Value.slice (some ⟨g0, 0, none⟩) 0 0 :: Value.slice p2 K c2 :: Value.int .i64 (k : Int) :: Value.slice p2 k c2 :: v1 :: Value.slice (some ⟨g9, 0, none⟩) 2 2 :: v2 :: Value.slice p2 K c2 :: Value.int .i64 (k : Int) :: Value.slice (bk p2 c2 k) (K - k) (c2 - k) :: v3 :: undef :: undef :: undef :: undef :: undef :: undef :: undef :: undef :: undef :: undef :: undef :: undef :: undef :: undef :: undef :: undef :: undef :: undef :: undef :: undef :: undef :: undef :: undef :: undef :: undef :: undef :: undef :: undef :: undef :: undef :: undef :: undef :: undef :: undef :: undef :: undef :: undef :: undef :: undef :: undef :: undef :: undef :: undef :: undef :: undef :: undef :: undef :: undef :: undef :: undef :: undef :: []), []⟩ (by kernel_rfl) (by kernel_rfl) ?_
        have HB_3 := Lh (HBY.out.trans (B4.mono HBY.out.size))
        have Hrw_3 := Lh (HRW.out.below B4)
        clear B1 B2 B3 B4 HSF HSB HR1 HR2 HR3 ht1 ht3 ho2
        obtain ⟨A, hA⟩ := eqx ((lo.map it).take k ++ [(K1, F), (30, T2)] ++ (lo.map it).drop k)
        have HRA := Lh (show L4.Row Z4 v3 A from by
          have h := L4.Row.pK HO3_.out rfl
          rw [List.nil_append, HOD.out] at h
          rw [hA]; exact h)
        have hwd := HWD.out.1
        rw [HOD.out] at hwd
        have hd1 : (gU K1 F).2 = 7 := dec_other K1 F HK1.out.2.2
        have hd2 : (gU 30 T2).2 = 7 := jP T2 (by rw [HT2.out, ByteArray.size_append, aN]; show 1 + F.size ≠ 0; omega) (by rw [HT2.out, first_byte, HC.out]; omega)
        obtain ⟨P1, P2, P3, P4⟩ := pass_all lo HOK.out (K1, F) (30, T2) hd1 hd2 HMY.out.1 HMY.out.2 k (by have := H40.out; omega) A hA
        have HAZ := Lh (show ∀ y ∈ A, y.2.size ≤ 140737488355328 from by
          rw [hA]
          intro y hy
          have hm := map_it_ok lo fun x hx => (HOK.out x hx).2
          rcases List.mem_append.1 hy with hy | hy
          · rcases List.mem_append.1 hy with hy | hy
            · exact hm y (List.mem_of_mem_take hy)
            · exact HOS.out y (by rw [HOD.out]; exact hy)
          · exact hm y (List.mem_of_mem_drop hy))
        have HAL := Lh (show A.length ≤ 1099511627776 from by rw [hA, List.length_append, List.length_append, List.length_take, List.length_drop]; show _ + 2 + _ ≤ _; omega)
        have hsm := L4.laid_small A
        obtain ⟨S, hS⟩ := eqx ((L4.laid A).1)
        obtain ⟨Tt, hTt⟩ : ∃ S, S = (L4.laid (lo.map it)).1 := ⟨_, rfl⟩
        have HLA := Lh (show L4.laid A = (S, 0) from Prod.ext hS.symm P1)
        have HLT := Lh (show yX lo = (Tt, 0) from by rw [yN fun x hx => (HOK.out x hx).2]; exact Prod.ext hTt.symm P4)
        have HAS := Lh (show wB S = (lo, 0) from by rw [hS]; exact P2)
        have HAT := Lh (show wB Tt = (lo, 0) from by rw [hTt]; exact allO_laid lo HOK.out (by have := H40.out; omega))
        have HSS := Lh (show S.size ≤ 40 from by rw [hS]; exact hsm)
        have HTS := Lh (show Tt.size ≤ S.size from by rw [hS, hTt]; exact P3)
        have HLN := Lh (show lo.length ≤ 1000 from by have := HKL.out; omega)
        clear hwd hd1 hd2 P1 P2 P3 P4 hsm hS hTt hA hlm HO3_
        go_wp2_with fail
        refine (L4.qQ v3 A (S, 0) Z4 HRA.out HAZ.out HAL.out HLA.out).mono ?_
        rintro e U4 ⟨rfl, q⟩
        have xU := Lh (HB_3.out.trans (q.mono HB_3.out.size))
        have Hrw_4 := Lh (Hrw_3.out.below q)
        clear q
        go_wp2_with fail
        refine (uG S (by have := HSS.out; omega) (lo, 0) HAS.out U4 (HT.out.below xU.out) (HH.out.below xU.out)).mono ?_
        rintro e U5 ⟨va, rfl, hra, q⟩
        have HVA := Lh hra
        clear hra
        have zT := Lh (xU.out.trans (q.mono xU.out.size))
        have Hrw_5 := Lh (Hrw_4.out.below q)
        clear q
        go_wp2_with fail
        refine (answer (qQ (.slice p3 K c3) lo HLN.out (fun x hx => (HOK.out x hx).1) U5 Hrw_5.out (HT.out.below zT.out) (HH.out.below zT.out)) (v' := .tuple #[.string Tt, .int .i64 0]) (by rw [HLT.out])).mono ?_
        rintro e U6 ⟨rfl, q⟩
        have xY := Lh (zT.out.trans (q.mono zT.out.size))
        have Hrw_6 := Lh (Hrw_5.out.below q)
        have Hva_6 := Lh (HVA.out.below q)
        clear q
        go_wp2_with fail
        refine (uG Tt (by have := HSS.out; have := HTS.out; omega) (lo, 0) HAT.out U6 (HT.out.below xY.out) (HH.out.below xY.out)).mono ?_
        rintro e U7 ⟨vt, rfl, hra, q⟩
        have HVT := Lh hra
        clear hra
        have yY := Lh (xY.out.trans (q.mono xY.out.size))
        have Hrw_7 := Lh (Hrw_6.out.below q)
        have Hva_7 := Lh (Hva_6.out.below q)
        clear q
        go_wp2_with fail
        refine (vK va (.slice p3 K c3) lo lo HLN.out true ⟨fun _ => rfl, fun _ => rfl⟩ U7 Hva_7.out Hrw_7.out).mono ?_
        rintro e U8 ⟨rfl, q⟩
        have zU := Lh (yY.out.trans (q.mono yY.out.size))
        have Hrw_8 := Lh (Hrw_7.out.below q)
        have Hva_8 := Lh (Hva_7.out.below q)
        have Hvt_8 := Lh (HVT.out.below q)
        clear q
        go_wp2_with fail
        refine (vK vt (.slice p3 K c3) lo lo HLN.out true ⟨fun _ => rfl, fun _ => rfl⟩ U8 Hvt_8.out Hrw_8.out).mono ?_
        rintro e U9 ⟨rfl, q⟩
        have HB_9 := Lh (zU.out.trans (q.mono zU.out.size))
        have Hrw_9 := Lh (Hrw_8.out.below q)
        have Hva_9 := Lh (Hva_8.out.below q)
        have Hvt_9 := Lh (Hvt_8.out.below q)
        clear q
        have hle : (Tt.size : Int) ≤ (S.size : Int) := by have := HTS.out; omega
        go_wp2_with fail
        go_ret
        exact ⟨rfl, HB_9.out⟩
      · go_wp2_with fail
        go_loopw [10, 11, 12, 13] (fun vo vi n i wr => ∃ (j : Nat) (lo : List Op), j ≤ l.length ∧ lo.length ≤ j ∧ i = .int .i64 (j : Int) ∧ n = .int .i64 ((N0 + L4.wide (lo.map it) : Nat) : Int) ∧ Two U2.heap.size wr vo vi lo (lo.map it) ∧ (∀ x ∈ lo, x.Ok ∧ jH x) ∧ N0 + L4.wide (lo.map it) ≤ 40 ∧ j ≤ 8 ∧ Below w.heap.size w wr ∧ Below U2.heap.size U2 wr) (fun _ _ _ i _ => l.length - (intOf i).toNat)
        case atStart => exact ⟨0, [], Nat.zero_le _, Nat.zero_le _, rfl, rfl, Two.nil _ _, fun x hx => (by cases hx), by have := HWD.out; show N0 + 0 ≤ 40; omega, by omega, yH.out, Below.refl _ _⟩
        case round =>
          obtain ⟨j, lo, hj, hjl, rfl, rfl, htw, hok, h40, h8, hW, hWs⟩ := hrel
          have HW0 := Lh hW
          have HTW := Lh htw
          have HOKL := Lh hok
          have HWS := Lh (show From U2 wr from hWs)
          obtain ⟨M, hM⟩ : ∃ M : Nat, M = N0 + L4.wide (lo.map it) := ⟨_, rfl⟩
          rw [← hM] at h40 ⊢
          have HM := Lh hM
          clear hW htw hok hWs hM
          have j8 : (j : Int) ≤ 8 := by omega
          by_cases hlt : j < l.length
          · skip
            obtain ⟨x, hx⟩ : ∃ x, l[j]? = some x := ⟨_, List.getElem?_eq_getElem hlt⟩
            have hl2 : (j : Int) < (l.length : Int) := by omega
            have HX := Lh hx
            obtain ⟨xok, ad, hp, hg, hcx⟩ := (HL.out.below HW0.out).at j x hx
            subst hp
            have HCX := Lh hcx
            have HXO := Lh xok
            have HADG := Lh hg
            have HP := Lh (fun W => place_d ad j l.length cap hlt (by omega) W)
            have HXS := Lh xok.bs
            obtain ⟨o, ho⟩ := eqx x.op
            have HOM := Lh (show o.Ok ∧ jH o by rw [ho]; exact x.op_may xok)
            have HCO := Lh (show ∀ W, Calls Tryz.prog 11 #[.agg (drv x)] W (Rt W (.agg (ov o))) from fun W => by rw [ho]; exact Opt_any x xok W)
            obtain ⟨T, hT⟩ := eqx o.body.1
            have HIT := Lh (show it o = (30, T) by rw [hT]; rfl)
            have HTS := Lh (show T.size ≤ 38 by rw [hT]; exact (qK o HOM.out.2.1).2)
            have HEO := Lh (show dG o = .tuple #[.agg (itv (30, T)), .int .i64 0] by unfold dG; rw [wJ HOM.out.2, hT])
            clear hg hcx xok ho hT hx
            by_cases h8' : j < 8
            · skip
              have h8i : (j : Int) < 8 := by omega
              go_wp2_with (first
                                | (refine gK rfl (.pointer (some (ad.add (j * 34)))) (zH 66 (.tmp 70) (.tmp 71) _ _ _ (HP.out _) rfl rfl rfl) ?_)
                                | (refine ld_draft rfl _ rfl (ad.add (j * 34)) rfl x HXS.out HCX.out ?_))
              refine (HCO.out wr).mono ?_
              rintro e U601 ⟨rfl, q⟩
              have wY := Lh (HW0.out.trans (q.mono HW0.out.size))
              have Hw2_601 := Lh (HTW.out.below q)
              have Hge_601 := Lh (HWS.out.below q)
              clear q
              go_wp2_with fail
              refine (answer (eG o HOM.out.1 U601 (HT.out.below wY.out) (HH.out.below wY.out)) (v' := .tuple #[.agg (itv (30, T)), .int .i64 0]) HEO.out).mono ?_
              rintro e U602 ⟨rfl, q⟩
              have x8 := Lh (wY.out.trans (q.mono wY.out.size))
              have Hw2_602 := Lh (Hw2_601.out.below q)
              have Hge_602 := Lh (Hge_601.out.below q)
              clear q
              go_upto_region 14 with (refine xI rfl rfl 14 rfl rfl _ rfl (30, T) (fun _ => by kernel_rfl) (fun _ => by kernel_rfl) ?_; intro V603 Xt hb hB hx; have yT := Lh hb; have Gt := Lh (Nat.le_trans x8.out.size hx); have wP := Lh (x8.out.trans (hB.mono x8.out.size)); have Hw2_603 := Lh (Hw2_602.out.below hB); have Hge_603 := Lh (Hge_602.out.below hB); have NT := Lh (show some Xt ≠ u10.ownBlock from fun e => by have := (World.ownsRow.lt Hw2_602.out.o Xt e.symm).2; omega); clear hb hB hx)
              have ct := (yT.out.cell 1).trans (show _ = some (Value.string T) by kernel_rfl)
              have hts : (T.size : Int) ≤ 38 := by have := HTS.out; omega
              have hM40 : (M : Int) ≤ 40 := by omega
              by_cases hb : 40 < M + 2 + T.size
              · skip
                have hbi : (40 : Int) < (M : Int) + 2 + (T.size : Int) := by omega
                go_wp2_with fail
                rw [HCU3.out]
                exact ⟨rfl, u10, u11, lo, by kernel_rfl, Hw2_603.out, HOKL.out, (by have := HM.out; omega), (by omega), wP.out, L4.Row.below HRO2.out Hge_603.out⟩
              · skip
                have hbi : ¬ (40 : Int) < (M : Int) + 2 + (T.size : Int) := by omega
                go_upto_region 18 with fail
                clear ct
                obtain ⟨-, ad2, hp2, -, hcx2⟩ := (HL.out.below wP.out).at j x HX.out
                obtain rfl : ad = ad2 := Option.some.inj hp2
                have HCX2 := Lh hcx2
                clear hp2 hcx2
                go_wp2_with (first
                                    | (refine gK rfl (.pointer (some (ad.add (j * 34)))) (zH 66 (.tmp 89) (.tmp 90) _ _ _ (HP.out _) rfl rfl rfl) ?_)
                                    | (refine ld_draft rfl _ rfl (ad.add (j * 34)) rfl x HXS.out HCX2.out ?_))
                refine (HCO.out V603).mono ?_
                rintro e U604 ⟨rfl, q⟩
                have HB_604 := Lh (wP.out.trans (q.mono wP.out.size))
                have Hw2_604 := Lh (Hw2_603.out.below q)
                have Hge_604 := Lh (Hge_603.out.below q)
                have Ht_604 := Lh (yT.out.below q yT.out.lt)
                clear q
                have hlo : lo.length ≤ 8 := by omega
                go_upto_region 19 with (first
                                    | (at_builtin; refine app_two_o rfl _ _ rfl U2.heap.size u10 u11 lo (lo.map it) o (by kernel_rfl) Hw2_605.out Hge_605.out.size X4 HX4.out (by kernel_rfl) (by omega) U2 Hge_605.out (Nat.le_refl _) Xt 53 (itv (30, T)) Ht_605.out NT.out ?_; intro V5 w5 t5 b5 z5 g5; have HT5w := Lh t5; have HB5 := Lh b5; have HZ5 := Lh z5; have HG5 := Lh g5; clear t5 b5 z5 g5)
                                    | (refine wp_opts rfl 1 _ rfl [o] Nat.one_pos (Nat.le_of_ble_eq_true rfl) rfl ?_ ?_; kernel_rfl; intro U4 X4 hX hU; have HX4 := Lh (one_blk o hX hU); have hB := bel_alloc (Below.refl U604.heap.size U604) hU; have HB_605 := Lh (HB_604.out.trans (hB.mono HB_604.out.size)); have Hw2_605 := Lh (Hw2_604.out.below hB); have Hge_605 := Lh (Hge_604.out.below hB); have Ht_605 := Lh (Ht_604.out.below hB Ht_604.out.lt); clear hB hX hU))
                have HMAP := Lh (show (lo ++ [o]).map it = lo.map it ++ [(30, T)] by rw [List.map_append, ← HIT.out]; rfl)
                have HMW := Lh (show N0 + L4.wide ((lo ++ [o]).map it) = M + 2 + T.size by rw [HMAP.out, L4.iG, L4.wide_one, HM.out]; show N0 + (_ + (2 + T.size)) = _; omega)
                go_wp2_with (first
                                    | (at_builtin; refine app_two_i rfl _ _ rfl U2.heap.size V5 u11 (lo ++ [o]) (lo.map it) (30, T) (by kernel_rfl) (HT5w.out.below ((Below.refl _ w5).alloc (Nat.le_refl _) _)) (Nat.le_trans HG5.out (Nat.le_of_lt (Blk.new w5 53 (itv (30, T))).lt)) w5.heap.size (Blk.new w5 _ _) (by kernel_rfl) (by rw [List.length_map]; omega) U2 (HB5.out.alloc HB5.out.size _) (Nat.le_refl _) ?_; intro X6 w6 t6 b6 g6; have HT6 := Lh t6; have HU6 := Lh b6; have HB6 := Lh (yH.out.trans (b6.mono yH.out.size)); clear t6 b6 g6)
                                    | (refine ldI rfl _ rfl Xt rfl (30, T) HZ5.out ?_))
                exact ⟨⟨j + 1, lo ++ [o], by omega, by rw [List.length_append]; show lo.length + 1 ≤ j + 1; omega, by go_num, congrArg (Value.int IntKind.i64) (by have := HMW.out; omega), by rw [HMAP.out]; exact HT6.out, (fun y hy => by
                  rcases List.mem_append.1 hy with hy | hy
                  · exact HOKL.out y hy
                  · rw [List.mem_singleton.1 hy]; exact HOM.out), by have := HMW.out; omega, by omega, HB6.out, HU6.out⟩, by simp [intOf]; omega⟩
            · skip
              have h8i : ¬ (j : Int) < 8 := by omega
              go_wp2_with fail
              rw [HCU3.out]
              exact ⟨rfl, u10, u11, lo, by kernel_rfl, HTW.out, HOKL.out, (by have := HM.out; omega), (by omega), HW0.out, L4.Row.below HRO2.out HWS.out⟩
          · skip
            have hjl2 : j = l.length := by omega
            have hl2 : ¬ (j : Int) < (l.length : Int) := by omega
            go_wp2_with fail
            rw [HCU3.out]
            exact ⟨rfl, u10, u11, lo, by kernel_rfl, HTW.out, HOKL.out, (by have := HM.out; omega), (by omega), HW0.out, L4.Row.below HRO2.out HWS.out⟩
    · cases B with
      | true =>
        go_wp2_with fail
        rw [HCU2.out]
        exact ⟨rfl, _, _, _, 31, rfl, by rw [show (#[.int .i64 31, .string F, .int .i64 30, .string T2] : Array Value) = (#[.int .i64 K0, .string F, .int .i64 30, .string T2]).setIfInBounds 0 (.int .i64 31) by kernel_rfl]; exact HO.out.fM 0 _, HBV.out.setCell (p := ⟨g9, 0, none⟩) HGL.out _, by decide, by decide, by decide⟩
      | false =>
        go_wp2_with fail
        rw [HCU2.out]
        exact ⟨rfl, _, _, _, K0, rfl, HO.out, HBV.out, HK0.out.1, HK0.out.2, fun e => by have h := HBK.out; rw [e] at h; exact absurd h (by decide)⟩
  · go_wp2_with fail
    rw [HCU1.out]
    exact ⟨rfl, rfl, rfl⟩
theorem lifted (os:Os) (started:os.Started) (H:Type) (enc:TypeId×Value→H):
  ReturnsInHanded {} Tryz.checked os 8 .any (fun w args=>(Rows.optPassesSpec.pre enc Tryz.prog Tryz.f8 [] false w args∧laidMetH Tryz.prog laid1 w)∧sizedMet enc Tryz.prog Tryz.f8 (OpenSpec.ofChange Rows.optPassesSpec) false w args)
   (Rows.optPassesSpec.post enc Tryz.prog Tryz.f8 false true false false):=by
 refine returnsInHanded_of_change_and (C:=Tryz.checked) (X:=fun w _=>laidMetH Tryz.prog laid1 w) (fun _ _ _ hh h=>h.of_heap hh) own started (by kernel_rfl) Tryz.func8
  (ChangeSpec.witness_shaped (enc:=enc) (C:=Tryz.checked) (os:=os) (X:=fun w _=>laidMetH Tryz.prog laid1 w) false (World.doorLaid Tryz.prog 400 os) #[.slice none 0 0,.string ByteArray.empty,.int .u8 0,.int .u8 0] 8 rfl (World.shaped_of_RefB (by kernel_rfl) (by kernel_rfl)) (by kernel_rfl) (by kernel_rfl) (by kernel_rfl) (door_met os _)) ?_
 intro W base args ds gs before hval0 hW hcnd hsz0 hL _
 have hsz:(DataW.weightsEach Tryz.prog (Tryz.f8.params.toList++Rows.optPassesSpec.plain.varTypes Tryz.prog) (ds++gs)).all (·≤reachBytes)=true:=hsz0
 have ht:=table_of hL
 have hval:∀(j:Nat) t v,Tryz.f8.params[j]?=some t→args[j]?=some v→Value.okWide Tryz.prog W .any base t v:=hval0
 have hW':=hW
 obtain ⟨p,q,hA0,hV,rfl,hfz,hnd⟩:=hW
 have hA:DataW.TrodAll enc Tryz.prog W 0 (fun _=>true) true Tryz.f8.params.toList args.toList ds p:=hA0
 rw [Tryz.params8] at hA hval hsz
 obtain ⟨v0,vs0,d0,ds0,p0,q0,hargs,rfl,rfl,h0,r0⟩:=trodAll_cons hA
 obtain ⟨v1,vs1,d1,ds1,p1,q1,rfl,rfl,rfl,h1,r1⟩:=trodAll_cons r0
 obtain ⟨v2,vs2,d2,ds2,p2,q2,rfl,rfl,rfl,h2,r2⟩:=trodAll_cons r1
 obtain ⟨v3,vs3,d3,ds3,p3,q3,rfl,rfl,rfl,h3,r3⟩:=trodAll_cons r2
 obtain ⟨rfl,rfl,rfl⟩:=trodAll_nil r3
 obtain rfl:args=#[v0,v1,v2,v3]:=by cases args;simp_all
 obtain ⟨rfl,rfl⟩:=trodVars_none hV
 have k0:=h0
 have lt0:∀x∈p0,x.block < W.heap.size:=by obtain ⟨m,hm⟩:=k0;exact DataW.trod_lt m _ _ _ hm
 obtain ⟨l,hl⟩:=open_drafts (hval 0 66 v0 rfl rfl) h0
 obtain ⟨a1,rfl,rfl,rfl,w1⟩:=Go.ChangeMaps.open_string Tryz.underlying9 (hval 1 9 v1 rfl rfl) h1
 obtain ⟨a2,rfl,rfl,rfl,w2⟩:=open_int Tryz.underlying5 (hval 2 5 v2 rfl rfl) h2
 obtain ⟨a3,rfl,rfl,rfl,w3⟩:=open_int Tryz.underlying5 (hval 3 5 v3 rfl rfl) h3
 have z1:a1.size≤140737488351232:=by have:=sized_string hsz (j:=1) (t:=9) rfl rfl;simpa [reachBytes] using this
 clear hA0 hval0
 simp only [List.append_nil] at hW'
 refine (walk v0 l a1 a2 (bounds_u8 w2) a3 (bounds_u8 w3) W hl ht).mono fun e W' ⟨he,bel⟩=>?_
 subst he
 exact ⟨_,rfl,_,_,_,[],_,[],hW',trodAll_mk1 (shut_bool Tryz.underlying4 _),(trodAll_cons_mk (Below.trod laidOut (by kernel_rfl) (of_decide_eq_true (by kernel_rfl)) k0 bel lt0) (trodAll_cons_mk (Go.ChangeMaps.shut_string Tryz.underlying9 w1) (trodAll_cons_mk (shut_int Tryz.underlying5 w2) (trodAll_cons_mk (shut_int Tryz.underlying5 w3) trodAll_mk0)))),rfl,bel.frame _,fun h=>by cases h⟩
theorem over:Rows.OptPassesSaid:=
 OpenClaim.holds_of_wide 8 Tryz.f8 rfl rfl rfl rfl rfl rfl rfl ⟨rfl,rfl,rfl,rfl,rfl⟩ rfl rfl rfl rfl rfl (by kernel_rfl) Tryz.func8 (by kernel_rfl)
  (of_decide_eq_true (by kernel_rfl)) (by unfold Func.isWrapper;first | (rw [if_pos (by decide+kernel)];kernel_rfl) | (rw [if_neg (by decide+kernel)];exact ⟨rfl,rfl⟩))
  (fun os started H enc _=>lifted os started H enc)
theorem proved:Rows.OptPassesCardSaid:=
 Claim7.holds_tied_plain_at .later [] [.handle,.data] true _ true
  over (fun _ h=>by cases h) (by kernel_rfl) (fun _ h=>by cases h) optPasses_row_tie rfl ⟨rfl,rfl⟩ (by kernel_rfl) rfl
  (fun f fn hf hfn=>by
   obtain rfl:f=8:=Option.some.inj ((show Tryz.prog.funcNamed "plait/plaitlaw14.OptPasses"=some 8 by kernel_rfl).symm.trans hf) |>.symm
   obtain rfl:fn=Tryz.f8:=(Option.some.inj (Tryz.func8.symm.trans hfn)).symm
   exact ⟨by kernel_rfl,fun j t ht=>by
    rw [Tryz.params8] at ht
    have hm:t∈([66,9,5,5]:List TypeId):=by simpa using Array.mem_of_getElem? ht
    have hall:(([66,9,5,5]:List TypeId).all fun u=>!Tryz.prog.wantsStandIn u)=true:=by kernel_rfl
    exact (show Tryz.prog.wantsStandIn t=false by simpa using List.all_eq_true.1 hall t hm)⟩)
  (by kernel_rfl)
#print axioms proved
end Go.Proofs.YtnlhhjhidkjlbaaGreatDoor.L14.optPasses
