/-
  CtrlOne returns true for all bytes and texts. No conditions.
-/
import Derived.Test.YtbimdlcgjpeheaaCtrlMask
import Derived.Deep.CutBlock
import Derived.WalkKit
import Derived.ProofKit
import Derived.OpenShut
import Derived.ShutString
import Derived.ChangeOld
import Derived.Below
import Derived.SizedLaws
namespace Go.Proofs.Ytbimdlcgjpeheaa.ctrlOne
open Go.ChangeShapes Go.WideShapes Go.ChangeAt Go.RowKit
open Go.ChangeMaps (open_string shut_string)
set_option linter.unusedVariables false

theorem two_size : (Try.prog.info? 59).map (·.size) = some 2 := by kernel_rfl
theorem two_one (a b : Int) : (#[Value.int .u8 a, Value.int .u8 b] : Array Value).all (·.oneCell') = true := by simp [Value.oneCell']
set_option maxHeartbeats 4000000 in
set_option maxRecDepth 100000 in
theorem walk (first : Nat) (hf : first ≤ 255) (m : List UInt8) (hm : m.length = 9) (n : Nat) (hn : n ≤ 255) (raw : ByteArray) (hr : raw.size ≤ 140737488351232) (w : World) :
    Calls Try.prog 6 #[.int .u8 (first : Int), .agg (byv m), .int .u8 (n : Int), .string raw] w fun e w' => e = .returned (.bool true) ∧ Below w.heap.size w w' := by
  obtain ⟨q, hq⟩ : ∃ q, first % 64 = q := ⟨_, rfl⟩
  have hq2 : q < 64 := by omega
  obtain ⟨v, hv⟩ : ∃ v : UInt8, v.toNat = 80 + q := ⟨UInt8.ofNat (80 + q), by rw [UInt8.toNat_ofNat']; omega⟩
  obtain ⟨A, hA⟩ : ∃ A, A = txt [v] := ⟨_, rfl⟩
  obtain ⟨M, hM⟩ : ∃ M, M = txt m := ⟨_, rfl⟩
  obtain ⟨T, hT⟩ : ∃ T, T = txt (v :: m) := ⟨_, rfl⟩
  have HQ := Lib.hid hq
  have HV := Lib.hid (show 80 + q = v.toNat ∧ v.toNat ≤ 255 from ⟨hv.symm, by omega⟩)
  have HA := Lib.hid hA
  have HM := Lib.hid hM
  have HT := Lib.hid (show T = A ++ M by rw [hT, hA, hM]; exact (txt_app [v] m).symm)
  have HS := Lib.hid (show A.size ≤ 20 ∧ M.size ≤ 20 by rw [hA, hM, txt_size, txt_size, hm]; simp)
  have HL := Lib.hid hm
  have hsz : T.size = 10 := by rw [hT, txt_size]; simp [hm]
  have HTT := Lib.hid hT
  clear hq hq2 hv hA hM hT
  obtain ⟨k, hk⟩ : ∃ k, n % 11 = k := ⟨_, rfl⟩
  have hk11 : k < 11 := by omega
  obtain ⟨S0, hS0⟩ : ∃ S, T.extract 0 k = S := ⟨_, rfl⟩
  obtain ⟨S1, hS1⟩ : ∃ S, T.extract 0 1 = S := ⟨_, rfl⟩
  obtain ⟨S2, hS2⟩ : ∃ S, T.extract 0 2 = S := ⟨_, rfl⟩
  have K0 := Lib.hid (front_cut T S0 (k : Int) k rfl (by omega) hS0)
  have K1 := Lib.hid (front_cut T S1 1 1 rfl (by omega) hS1)
  have K2 := Lib.hid (front_cut T S2 2 2 rfl (by omega) hS2)
  have KC := Lib.hid (conv_u8_i64 (n : Int) n rfl hn)
  have KR := Lib.hid hk
  obtain ⟨AR, hAR⟩ : ∃ A : Array Value, A = #[.string S1, .string S2, .string T, .string S0, .string raw] := ⟨_, rfl⟩
  have HIDX := Lib.hid (show ∀ j < 5, ∃ t : ByteArray, t.size ≤ 140737488351232 ∧ ∀ W, (Instr.index 57 (.agg AR) (.int .i64 ((j : Nat) : Int))).run Try.prog W = .ok (.string t) W by
    intro j hj
    have z0 : S0.size ≤ 10 := by rw [← hS0, ByteArray.size_extract]; omega
    have z1 : S1.size ≤ 10 := by rw [← hS1, ByteArray.size_extract]; omega
    have z2 : S2.size ≤ 10 := by rw [← hS2, ByteArray.size_extract]; omega
    have hj5 : j = 0 ∨ j = 1 ∨ j = 2 ∨ j = 3 ∨ j = 4 := by omega
    subst hAR
    rcases hj5 with rfl | rfl | rfl | rfl | rfl
    · exact ⟨S1, by omega, fun _ => by kernel_rfl⟩
    · exact ⟨S2, by omega, fun _ => by kernel_rfl⟩
    · exact ⟨T, by omega, fun _ => by kernel_rfl⟩
    · exact ⟨S0, by omega, fun _ => by kernel_rfl⟩
    · exact ⟨raw, hr, fun _ => by kernel_rfl⟩)
  have HAR := Lib.hid hAR
  obtain ⟨br, hbr⟩ : ∃ b, b = w.heap.size := ⟨_, rfl⟩
  obtain ⟨w0, hw0⟩ : ∃ V, V = w.alloc (.cells (byv m) 56) := ⟨_, rfl⟩
  have HR_0 := Lib.hid (show Blk w0 br 56 (byv m) by rw [hw0, hbr]; exact Blk.new _ _ _)
  have HB_0 := Lib.hid (show Below w.heap.size w w0 by rw [hw0]; exact (Below.refl _ w).alloc (Nat.le_refl _) _)
  have HV0 := Lib.hid hw0
  have HBR := Lib.hid hbr
  clear hk hk11 hS0 hS1 hS2 hAR hw0 hbr hn hr hm hsz hf
  go_enter Try.func6, Try.ntmps6
  go_upto_region 1 with fail
  rw [← HV0.out, ← HBR.out]
  clear HV0
  go_wp2_with fail
  refine (works_t w0).mono ?_
  rintro e V ⟨rfl, b⟩
  have HR := Lib.hid (HR_0.out.below b HR_0.out.lt)
  have HBV := Lib.hid (HB_0.out.trans (b.mono HB_0.out.size))
  clear b HR_0 HB_0
  go_upto_region 3 with fail
  have B0 : Below V.heap.size V V.drew := (Below.refl _ V).drew
  refine held_start (fun W => Below V.heap.size V W) (by kernel_rfl) (n := 9) rfl ?_
  obtain ⟨W0, hW0⟩ : ∃ W0, W0 = V.drew := ⟨_, rfl⟩
  rw [← hW0] at B0 ⊢
  clear hW0
  refine held_free 0 (.int .u8 (first : Int)) rfl (by kernel_rfl) (by kernel_rfl) (by kernel_rfl) (by kernel_rfl) B0 (fun _ _ => by kernel_rfl) ?_
  refine held_free 1 (.int .u8 (q : Int)) rfl (by kernel_rfl) (by kernel_rfl) (by kernel_rfl) (by kernel_rfl) B0 (fun _ _ => ex_rem8 5 5 (.tmp 30) (.const (.int .u8 64)) (by kernel_rfl) first 64 q (by kernel_rfl) (by kernel_rfl) (by kernel_rfl) (by decide) HQ.out) ?_
  refine held_free 2 (.int .u8 (v.toNat : Int)) rfl (by kernel_rfl) (by kernel_rfl) (by kernel_rfl) (by kernel_rfl) B0 (fun _ _ => ex_add8 5 5 (.const (.int .u8 80)) (.tmp 31) (by kernel_rfl) 80 q v.toNat (by kernel_rfl) (by kernel_rfl) (by kernel_rfl) HV.out.1 HV.out.2) ?_
  refine held_free 5 (.slice (some ⟨br, 0, none⟩) 9 9) rfl (by kernel_rfl) (by kernel_rfl) (by kernel_rfl) (by kernel_rfl) B0 (fun W _ => ex_slice0 56 (.tmp 5) (by kernel_rfl) (v := .pointer (some ⟨br, 0, none⟩)) (by kernel_rfl) (all_9 W br)) ?_
  refine held_free 6 (.string M) rfl (by kernel_rfl) (by kernel_rfl) (by kernel_rfl) (by kernel_rfl) B0 (fun W b => ex_convert_to (v := .slice (some ⟨br, 0, none⟩) 9 9) 45 9 (.tmp 35) (by kernel_rfl) (by kernel_rfl) (by rw [HM.out]; exact row_txt W br 9 _ m HL.out (HR.out.below b HR.out.lt))) ?_
  obtain ⟨W1, hW1⟩ : ∃ w', w' = W0.alloc (.cells #[.int .u8 (v.toNat : Int)] 5) := ⟨_, rfl⟩
  have NB : Blk W1 W0.heap.size 5 #[.int .u8 (v.toNat : Int)] := by rw [hW1]; exact Blk.new _ _ _
  have B1 : Below V.heap.size V W1 := by rw [hW1]; exact B0.alloc B0.size _
  refine held_lone (v := .slice (some ⟨W0.heap.size, 0, none⟩) 1 1) (w' := W1) 3 rfl (by kernel_rfl) (by kernel_rfl) (by rw [hW1]; exact ex_byte1 (.tmp 32) (by kernel_rfl) v (by kernel_rfl)) B1 ?_
  clear hW1
  refine held_lone (v := .string A) (w' := W1) 4 rfl (by kernel_rfl) (by kernel_rfl) (ex_convert_to (v := .slice (some ⟨W0.heap.size, 0, none⟩) 1 1) 45 9 (.tmp 33) (by kernel_rfl) (by kernel_rfl) (by rw [HA.out]; exact one_txt _ _ v NB)) B1 ?_
  refine held_free 7 (.string T) rfl (by kernel_rfl) (by kernel_rfl) (by kernel_rfl) (by kernel_rfl) B1 (fun _ _ => ex_strcat 9 9 (.tmp 34) (.tmp 36) (by kernel_rfl) (A) (M) T (by kernel_rfl) (by kernel_rfl) (by have := HS.out; omega) (by have := HS.out; omega) HT.out) ?_
  refine held_free 8 (.string T) rfl (by kernel_rfl) (by kernel_rfl) (by kernel_rfl) (by kernel_rfl) B1 (fun _ _ => by kernel_rfl) ?_
  refine held_end_at ⟨#[.int .u8 (first : Int), .agg (byv m), .int .u8 (n : Int), .string raw, undef, .pointer (some ⟨br, 0, none⟩), undef, undef, .bool false, .string T, undef, undef, undef, undef, undef, undef, undef, undef, undef, undef, undef, undef, undef, undef, undef, undef, undef, undef, .bool true, .bool false, .int .u8 (first : Int), .int .u8 (q : Int), .int .u8 (v.toNat : Int), .slice (some ⟨W0.heap.size, 0, none⟩) 1 1, .string A, .slice (some ⟨br, 0, none⟩) 9 9, .string M, .string T, undef, undef, undef, undef, undef, undef, undef, undef, undef, undef, undef, undef, undef, undef, undef, undef, undef, undef, undef, undef, undef, undef, undef, undef, undef, undef, undef, undef, undef, undef, undef, undef, undef, undef, undef, undef, undef, undef, undef, undef, undef, undef, undef, undef, undef, undef, undef, undef, undef, undef, undef, undef, undef, undef, undef, undef, undef, undef, undef, undef, undef, undef, undef, undef, undef, undef, undef, undef, undef, undef, undef, undef, undef, undef, undef, undef, undef, undef, undef, undef, undef, undef, undef, undef, undef, undef, undef, undef, undef, undef, undef, undef, undef, undef, undef, undef, undef, undef, undef, undef, undef, undef, undef, undef, undef, undef, undef, undef, undef, undef, undef, undef, undef, undef, undef, undef, undef, undef], []⟩ (by kernel_rfl) (by kernel_rfl) ?_
  obtain ⟨gb, hgb⟩ : ∃ g, g = W0.heap.size := ⟨_, rfl⟩
  rw [← hgb]
  clear hgb
  have HB1 := Lib.hid (HBV.out.trans (B1.mono HBV.out.size))
  obtain ⟨X, hX⟩ : ∃ V, V = W1 := ⟨_, rfl⟩
  rw [← hX] at HB1
  rw [← hX]
  clear B1 NB hX HBV HR
  go_upto_region 4 with fail
  have B0 : Below X.heap.size X X.drew := (Below.refl _ X).drew
  refine held_start (fun W => Below X.heap.size X W) (by kernel_rfl) (n := 13) rfl ?_
  obtain ⟨W0, hW0⟩ : ∃ W0, W0 = X.drew := ⟨_, rfl⟩
  rw [← hW0] at B0 ⊢
  clear hW0
  refine held_free 0 (.string T) rfl (by kernel_rfl) (by kernel_rfl) (by kernel_rfl) (by kernel_rfl) B0 (fun _ _ => by kernel_rfl) ?_
  refine held_free 1 (.string S1) rfl (by kernel_rfl) (by kernel_rfl) (by kernel_rfl) (by kernel_rfl) B0 (fun W _ => ex_slice_front (v := .string T) (hv := .int .i64 1) 9 (.tmp 38) (.const (.int .i64 1)) (by kernel_rfl) (by kernel_rfl) (by kernel_rfl) (K1.out W)) ?_
  refine held_free 2 (.string T) rfl (by kernel_rfl) (by kernel_rfl) (by kernel_rfl) (by kernel_rfl) B0 (fun _ _ => by kernel_rfl) ?_
  refine held_free 3 (.string S2) rfl (by kernel_rfl) (by kernel_rfl) (by kernel_rfl) (by kernel_rfl) B0 (fun W _ => ex_slice_front (v := .string T) (hv := .int .i64 2) 9 (.tmp 40) (.const (.int .i64 2)) (by kernel_rfl) (by kernel_rfl) (by kernel_rfl) (K2.out W)) ?_
  refine held_free 4 (.string T) rfl (by kernel_rfl) (by kernel_rfl) (by kernel_rfl) (by kernel_rfl) B0 (fun _ _ => by kernel_rfl) ?_
  refine held_free 5 (.string T) rfl (by kernel_rfl) (by kernel_rfl) (by kernel_rfl) (by kernel_rfl) B0 (fun _ _ => by kernel_rfl) ?_
  refine held_free 6 (.int .u8 (n : Int)) rfl (by kernel_rfl) (by kernel_rfl) (by kernel_rfl) (by kernel_rfl) B0 (fun _ _ => by kernel_rfl) ?_
  refine held_free 7 (.int .i64 (n : Int)) rfl (by kernel_rfl) (by kernel_rfl) (by kernel_rfl) (by kernel_rfl) B0 (fun W _ => ex_convert_to (v := .int .u8 (n : Int)) 5 3 (.tmp 44) (by kernel_rfl) (by kernel_rfl) (KC.out W)) ?_
  refine held_free 8 (.int .i64 (k : Int)) rfl (by kernel_rfl) (by kernel_rfl) (by kernel_rfl) (by kernel_rfl) B0 (fun _ _ => ex_rem_i64 3 3 (.tmp 45) (.const (.int .i64 11)) (by kernel_rfl) n 11 k (by kernel_rfl) (by kernel_rfl) (by kernel_rfl) (by decide) KR.out) ?_
  refine held_free 9 (.string S0) rfl (by kernel_rfl) (by kernel_rfl) (by kernel_rfl) (by kernel_rfl) B0 (fun W _ => ex_slice_front (v := .string T) (hv := .int .i64 (k : Int)) 9 (.tmp 43) (.tmp 46) (by kernel_rfl) (by kernel_rfl) (by kernel_rfl) (K0.out W)) ?_
  refine held_free 10 (.string raw) rfl (by kernel_rfl) (by kernel_rfl) (by kernel_rfl) (by kernel_rfl) B0 (fun _ _ => by kernel_rfl) ?_
  refine held_free 11 (.agg #[.string S1, .string S2, .string T, .string S0, .string raw]) rfl (by kernel_rfl) (by kernel_rfl) (by kernel_rfl) (by kernel_rfl) B0 (fun _ _ => by kernel_rfl) ?_
  refine held_free 12 (.int .i64 0) rfl (by kernel_rfl) (by kernel_rfl) (by kernel_rfl) (by kernel_rfl) B0 (fun _ _ => by kernel_rfl) ?_
  refine held_end_at ⟨#[.int .u8 (first : Int), .agg (byv m), .int .u8 (n : Int), .string raw, undef, .pointer (some ⟨br, 0, none⟩), undef, undef, .bool false, .string T, undef, undef, undef, undef, undef, undef, undef, undef, undef, undef, undef, undef, undef, undef, undef, undef, undef, undef, .bool true, .bool false, .int .u8 (first : Int), .int .u8 (q : Int), .int .u8 (v.toNat : Int), .slice (some ⟨gb, 0, none⟩) 1 1, .string A, .slice (some ⟨br, 0, none⟩) 9 9, .string M, .string T, .string T, .string S1, .string T, .string S2, .string T, .string T, .int .u8 (n : Int), .int .i64 (n : Int), .int .i64 (k : Int), .string S0, .string raw, .agg #[.string S1, .string S2, .string T, .string S0, .string raw], .int .i64 0, undef, undef, undef, undef, undef, undef, undef, undef, undef, undef, undef, undef, undef, undef, undef, undef, undef, undef, undef, undef, undef, undef, undef, undef, undef, undef, undef, undef, undef, undef, undef, undef, undef, undef, undef, undef, undef, undef, undef, undef, undef, undef, undef, undef, undef, undef, undef, undef, undef, undef, undef, undef, undef, undef, undef, undef, undef, undef, undef, undef, undef, undef, undef, undef, undef, undef, undef, undef, undef, undef, undef, undef, undef, undef, undef, undef, undef, undef, undef, undef, undef, undef, undef, undef, undef, undef, undef, undef, undef, undef, undef, undef, undef, undef, undef, undef, undef, undef, undef, undef, undef, undef, undef, undef, undef], []⟩ (by kernel_rfl) (by kernel_rfl) ?_
  have HB2 := Lib.hid (HB1.out.trans (B0.mono HB1.out.size))
  obtain ⟨Y, hY⟩ : ∃ V, V = W0 := ⟨_, rfl⟩
  rw [← hY] at HB2
  rw [← hY]
  clear B0 hY HB1
  rw [← HAR.out]
  go_wp2_with fail
  go_loopw [50] (fun i wr => ∃ j : Nat, j ≤ 5 ∧ i = .int .i64 (j : Int) ∧ Below w.heap.size w wr) (fun i _ => (5 - intOf i).toNat)
  case atStart => exact ⟨0, by omega, rfl, HB2.out⟩
  case round =>
    obtain ⟨j, hj, rfl, hB⟩ := hrel
    have HB4 := Lib.hid hB
    clear hB HB2
    by_cases hlt : j < 5
    · obtain ⟨s, hsz, hidx⟩ := HIDX.out j hlt
      have hi := hidx wr
      have j5 : (j : Int) < 5 := by omega
      have HLT := Lib.hid hlt
      have HSZ := Lib.hid hsz
      have HS9 := Lib.hid (show s.size ≤ 9223372036854775807 by omega)
      obtain ⟨K, hK⟩ : ∃ K, K = kind s := ⟨_, rfl⟩
      obtain ⟨P, hP⟩ : ∃ P, P = decP s := ⟨_, rfl⟩
      obtain ⟨N, hN⟩ : ∃ N, N = decN 6 s := ⟨_, rfl⟩
      obtain ⟨M2, hM⟩ : ∃ M, M = decN 7 s := ⟨_, rfl⟩
      obtain ⟨F, hF⟩ : ∃ F, F = decF s := ⟨_, rfl⟩
      obtain ⟨R, hR⟩ : ∃ R, R = decR s := ⟨_, rfl⟩
      obtain ⟨e1, h1⟩ : ∃ z, z = wrong 5 1 s := ⟨_, rfl⟩
      obtain ⟨e2, h2⟩ : ∃ z, z = wrong 6 10 s := ⟨_, rfl⟩
      obtain ⟨e3, h3⟩ : ∃ z, z = wrong 7 10 s := ⟨_, rfl⟩
      obtain ⟨e4, h4⟩ : ∃ z, z = wrong 8 2 s := ⟨_, rfl⟩
      obtain ⟨TT, hTT⟩ : ∃ T, T = again s := ⟨_, rfl⟩
      have HC := Lib.hid (show (e1 = 0 ↔ K = 0) ∧ (e2 = 0 ↔ K = 1) ∧ (e3 = 0 ↔ K = 2) ∧ (e4 = 0 ↔ K = 3) ∧ K ≤ 4 by
        have q := kind_codes s
        rw [h1, h2, h3, h4, hK]; exact ⟨q.1, q.2.1, q.2.2.1, q.2.2.2, kind_le s⟩)
      have HDP := Lib.hid (show decPV s = .tuple #[.agg (prv P), .int .i64 e1] by rw [hP, h1]; rfl)
      have HDF := Lib.hid (show decFV s = .tuple #[.agg (nuv N), .int .i64 e2] by rw [hN, h2]; rfl)
      have HDS := Lib.hid (show decSV s = .tuple #[.agg (nuv M2), .int .i64 e3] by rw [hM, h3]; rfl)
      have HDR := Lib.hid (show decRV s = .tuple #[.agg (rsv (F : Int) (R : Int)), .int .i64 e4] by rw [hF, hR, h4]; rfl)
      have HAG := Lib.hid (show TT = txt (msk (mOf K) s.data.toList (if K < 4 then min 2 s.size else 0)) by rw [hTT, hK]; exact again_msk s)
      have HTA := Lib.hid (show (K = 0 → prioT P = TT) ∧ (K = 1 → numT 6 N = TT) ∧ (K = 2 → numT 7 M2 = TT) ∧ (K = 3 → rstT F R = TT) ∧ (K = 4 → s = TT) by
        rw [hTT, hP, hN, hM, hF, hR, hK]; unfold again
        refine ⟨fun h => ?_, fun h => ?_, fun h => ?_, fun h => ?_, fun h => ?_⟩ <;> simp [h])
      have HNM := Lib.hid (show N ≤ 18446744073709551615 ∧ M2 ≤ 18446744073709551615 ∧ F ≤ 15 ∧ R ≤ 255 by
        rw [hN, hM, hF, hR]
        refine ⟨decN_le _ _, decN_le _ _, ?_, ?_⟩
        · unfold decF; split <;> omega
        · unfold decR; split
          · have := byteAt_lt s 1; omega
          · omega)
      obtain ⟨A4, hA4⟩ : ∃ A : Array Value, A = #[.int .i64 e1, .int .i64 e2, .int .i64 e3, .int .i64 e4] := ⟨_, rfl⟩
      have HI4 := Lib.hid (show ∀ i < 4, ∃ c : Int, (c = 0 ↔ K = i) ∧ ∀ W, (Instr.index 58 (.agg A4) (.int .i64 ((i : Nat) : Int))).run Try.prog W = .ok (.int .i64 c) W by
        intro i hi
        have hi4 : i = 0 ∨ i = 1 ∨ i = 2 ∨ i = 3 := by omega
        subst hA4
        rcases hi4 with rfl | rfl | rfl | rfl
        · exact ⟨e1, HC.out.1, fun _ => by kernel_rfl⟩
        · exact ⟨e2, HC.out.2.1, fun _ => by kernel_rfl⟩
        · exact ⟨e3, HC.out.2.2.1, fun _ => by kernel_rfl⟩
        · exact ⟨e4, HC.out.2.2.2.1, fun _ => by kernel_rfl⟩)
      have HA4 := Lib.hid hA4
      clear hidx hlt hj hsz hK hP hN hM hF hR h1 h2 h3 h4 hTT hA4
      go_wp2_with fail
      refine (DecodePrio_any s HS9.out wr).mono ?_
      rintro e U51 ⟨rfl, b⟩
      rw [HDP.out]
      have HB_51 := Lib.hid (HB4.out.trans (b.mono HB4.out.size))
      clear b
      clear hi
      obtain ⟨g52, hg⟩ : ∃ g, g = U51.heap.size := ⟨_, rfl⟩
      obtain ⟨V52, hV⟩ : ∃ V, V = U51.alloc (.cells (prv P) 23) := ⟨_, rfl⟩
      have HB_52 := Lib.hid (show Below w.heap.size w V52 by rw [hV]; exact HB_51.out.alloc HB_51.out.size _)
      have Hp_52 := Lib.hid (show Blk V52 g52 23 (prv P) by rw [hV, hg]; exact Blk.new _ _ _)
      have HV := Lib.hid hV
      have HGG := Lib.hid hg
      clear hV hg
      go_upto_region 8 with fail
      rw [← HV.out, ← HGG.out]
      clear HV HGG
      go_wp2_with fail
      refine (DecodeFail_any s HS9.out V52).mono ?_
      rintro e U53 ⟨rfl, b⟩
      rw [HDF.out]
      have HB_53 := Lib.hid (HB_52.out.trans (b.mono HB_52.out.size))
      have Hp_53 := Lib.hid (Hp_52.out.below b Hp_52.out.lt)
      clear b
      obtain ⟨g54, hg⟩ : ∃ g, g = U53.heap.size := ⟨_, rfl⟩
      obtain ⟨V54, hV⟩ : ∃ V, V = U53.alloc (.cells (nuv N) 32) := ⟨_, rfl⟩
      have HB_54 := Lib.hid (show Below w.heap.size w V54 by rw [hV]; exact HB_53.out.alloc HB_53.out.size _)
      have Hp_54 := Lib.hid (show Blk V54 g52 23 (prv P) by rw [hV]; exact Hp_53.out.alloc _)
      have Hf_54 := Lib.hid (show Blk V54 g54 32 (nuv N) by rw [hV, hg]; exact Blk.new _ _ _)
      have HV := Lib.hid hV
      have HGG := Lib.hid hg
      clear hV hg
      go_upto_region 9 with fail
      rw [← HV.out, ← HGG.out]
      clear HV HGG
      go_wp2_with fail
      refine (DecodeFast_any s HS9.out V54).mono ?_
      rintro e U55 ⟨rfl, b⟩
      rw [HDS.out]
      have HB_55 := Lib.hid (HB_54.out.trans (b.mono HB_54.out.size))
      have Hp_55 := Lib.hid (Hp_54.out.below b Hp_54.out.lt)
      have Hf_55 := Lib.hid (Hf_54.out.below b Hf_54.out.lt)
      clear b
      obtain ⟨g56, hg⟩ : ∃ g, g = U55.heap.size := ⟨_, rfl⟩
      obtain ⟨V56, hV⟩ : ∃ V, V = U55.alloc (.cells (nuv M2) 35) := ⟨_, rfl⟩
      have HB_56 := Lib.hid (show Below w.heap.size w V56 by rw [hV]; exact HB_55.out.alloc HB_55.out.size _)
      have Hp_56 := Lib.hid (show Blk V56 g52 23 (prv P) by rw [hV]; exact Hp_55.out.alloc _)
      have Hf_56 := Lib.hid (show Blk V56 g54 32 (nuv N) by rw [hV]; exact Hf_55.out.alloc _)
      have Hs_56 := Lib.hid (show Blk V56 g56 35 (nuv M2) by rw [hV, hg]; exact Blk.new _ _ _)
      have HV := Lib.hid hV
      have HGG := Lib.hid hg
      clear hV hg
      go_upto_region 10 with fail
      rw [← HV.out, ← HGG.out]
      clear HV HGG
      go_wp2_with fail
      refine (DecodeRst_any s HS9.out V56).mono ?_
      rintro e U57 ⟨rfl, b⟩
      rw [HDR.out]
      have HB_57 := Lib.hid (HB_56.out.trans (b.mono HB_56.out.size))
      have Hp_57 := Lib.hid (Hp_56.out.below b Hp_56.out.lt)
      have Hf_57 := Lib.hid (Hf_56.out.below b Hf_56.out.lt)
      have Hs_57 := Lib.hid (Hs_56.out.below b Hs_56.out.lt)
      clear b
      obtain ⟨g58, hg⟩ : ∃ g, g = U57.heap.size := ⟨_, rfl⟩
      obtain ⟨V58, hV⟩ : ∃ V, V = U57.alloc (.cells (rsv (F : Int) (R : Int)) 26) := ⟨_, rfl⟩
      have HB_58 := Lib.hid (show Below w.heap.size w V58 by rw [hV]; exact HB_57.out.alloc HB_57.out.size _)
      have Hp_58 := Lib.hid (show Blk V58 g52 23 (prv P) by rw [hV]; exact Hp_57.out.alloc _)
      have Hf_58 := Lib.hid (show Blk V58 g54 32 (nuv N) by rw [hV]; exact Hf_57.out.alloc _)
      have Hs_58 := Lib.hid (show Blk V58 g56 35 (nuv M2) by rw [hV]; exact Hs_57.out.alloc _)
      have Hr_58 := Lib.hid (show Blk V58 g58 26 (rsv (F : Int) (R : Int)) by rw [hV, hg]; exact Blk.new _ _ _)
      have HV := Lib.hid hV
      have HGG := Lib.hid hg
      clear hV hg
      go_upto_region 11 with fail
      rw [← HV.out, ← HGG.out]
      clear HV HGG
      go_upto_block 2 with fail
      rw [← HA4.out]
      go_wp2_with fail
      go_loopw [20, 78] (fun mv i wx => ∃ q : Nat, q ≤ 4 ∧ i = .int .i64 (q : Int) ∧ mv = .int .i64 ((if K < q then 1 else 0 : Nat) : Int) ∧ V58 = wx) (fun _ i _ => (4 - intOf i).toNat)
      case atStart => exact ⟨0, by omega, rfl, by simp, rfl⟩
      case round =>
        obtain ⟨q, hq, rfl, rfl, rfl⟩ := hrel
        by_cases hq4 : q < 4
        · obtain ⟨c, hc, hidx⟩ := HI4.out q hq4
          have hi := hidx V58
          have q4 : (q : Int) < 4 := by omega
          have HQ4 := Lib.hid hq4
          clear hidx hq4 hq
          by_cases hcz : c = 0
          · have hKq : K = q := hc.1 hcz
            rw [show (if K < q then 1 else 0 : Nat) = 0 by rw [if_neg (by omega)]]
            subst hcz
            clear hc
            go_wp2_with fail
            go_roundw
            case rel => exact ⟨q + 1, by have := HQ4.out; omega, by go_num, by rw [if_pos (by omega)]; rfl, trivial⟩
            case measure => simp [intOf]; omega
          · have hKq : ¬ K = q := fun h => hcz (hc.2 h)
            obtain ⟨y, hy⟩ : ∃ y : Nat, y = if K < q then 1 else 0 := ⟨_, rfl⟩
            rw [← hy]
            have HY := Lib.hid hy
            clear hc hy
            go_wp2_with fail
            go_roundw
            case rel => exact ⟨q + 1, by have := HQ4.out; omega, by go_num, by rw [HY.out]; congr 2; (repeat' split) <;> omega, trivial⟩
            case measure => simp [intOf]; omega
        · obtain rfl : q = 4 := by omega
          clear hq4 hq
          obtain ⟨mm, hmm⟩ : ∃ y : Nat, y = if K < 4 then 1 else 0 := ⟨_, rfl⟩
          rw [← hmm]
          have h1m : ¬ (1 : Int) < (mm : Int) := by rw [hmm]; split <;> omega
          have HMM := Lib.hid hmm
          clear hmm
          go_upto_block 4 with fail
          obtain ⟨gm, hg⟩ : ∃ g, g = V58.heap.size := ⟨_, rfl⟩
          obtain ⟨Z, hZ⟩ : ∃ V, V = V58.alloc (.cells #[.int .u8 255, .int .u8 255] 59) := ⟨_, rfl⟩
          have HBZ := Lib.hid (show Below w.heap.size w Z by rw [hZ]; exact HB_58.out.alloc HB_58.out.size _)
          have Hp_z := Lib.hid (show Blk Z g52 23 (prv P) by rw [hZ]; exact Hp_58.out.alloc _)
          have Hf_z := Lib.hid (show Blk Z g54 32 (nuv N) by rw [hZ]; exact Hf_58.out.alloc _)
          have Hs_z := Lib.hid (show Blk Z g56 35 (nuv M2) by rw [hZ]; exact Hs_58.out.alloc _)
          have Hr_z := Lib.hid (show Blk Z g58 26 (rsv (F : Int) (R : Int)) by rw [hZ]; exact Hr_58.out.alloc _)
          have HMK := Lib.hid (show Blk Z gm 59 #[.int .u8 255, .int .u8 255] by rw [hZ, hg]; exact Blk.new _ _ _)
          have HGL := Lib.hid (show w.heap.size ≤ gm by rw [hg]; exact HB_58.out.size)
          rw [← hZ, ← hg]
          clear hZ hg
          go_cut [23] (fun tv wx => tv = .string TT ∧ Blk wx gm 59 #[.int .u8 ((mOf K 0).toNat : Int), .int .u8 ((mOf K 1).toNat : Int)] ∧ Below w.heap.size w wx)
          case first =>
            have hK5 : K = 0 ∨ K = 1 ∨ K = 2 ∨ K = 3 ∨ K = 4 := by have := HC.out.2.2.2.2; omega
            rcases hK5 with hKv | hKv | hKv | hKv | hKv
            · have hk : K = 0 := hKv
              have z1 : (e1 == 0) = true := beq_iff_eq.2 (HC.out.1.2 hk)
              have HK := Lib.hid hk
              clear hk hKv
              have HEN := Lib.hid (show encPV P = .tuple #[.string TT, .int .i64 0] from by rw [← HTA.out.1 HK.out]; rfl)
              go_wp2_with (refine wpList_load_row_w (by rfl) 23 _ rfl g52 rfl 23 (prv P) (0, 0) _ ?_ Try.underlying23 rfl pr_size ?_; exact Hp_z.out)
              refine (EncodePrio_any P Z).mono ?_
              rintro e U71 ⟨rfl, b⟩
              rw [HEN.out]
              have HB_71 := Lib.hid (HBZ.out.trans (b.mono HBZ.out.size))
              have Hp_71 := Lib.hid (Hp_z.out.below b Hp_z.out.lt)
              have Hf_71 := Lib.hid (Hf_z.out.below b Hf_z.out.lt)
              have Hs_71 := Lib.hid (Hs_z.out.below b Hs_z.out.lt)
              have Hr_71 := Lib.hid (Hr_z.out.below b Hr_z.out.lt)
              have Hm_71 := Lib.hid (HMK.out.below b HMK.out.lt)
              clear b
              have c0 := Hm_71.out.cell 0
              have f0 := Hm_71.out.frozen 0
              simp only [List.getElem?_toArray, List.getElem?_cons_zero] at c0
              go_wp2_with fail
              go_meet
              refine ⟨rfl, ?_, HB_71.out.setCell HGL.out _⟩
              rw [HK.out]
              exact Hm_71.out.set_ 0 (.int .u8 241)
            · have hk : K = 1 := hKv
              have z1 : (e1 == 0) = false := beq_eq_false_iff_ne.2 (fun h => by have := HC.out.1.1 h; omega)
              have z2 : (e2 == 0) = true := beq_iff_eq.2 (HC.out.2.1.2 hk)
              have HK := Lib.hid hk
              clear hk hKv
              have HEN := Lib.hid (show encNV 6 N = .tuple #[.string TT, .int .i64 0] from by rw [← HTA.out.2.1 HK.out]; rfl)
              go_wp2_with (refine wpList_load_row_w (by rfl) 32 _ rfl g54 rfl 32 (nuv N) (0, 0) _ ?_ Try.underlying32 rfl fa_size ?_; exact Hf_z.out)
              refine (EncodeFail_any N HNM.out.1 Z).mono ?_
              rintro e U76 ⟨rfl, b⟩
              rw [HEN.out]
              have HB_76 := Lib.hid (HBZ.out.trans (b.mono HBZ.out.size))
              have Hp_76 := Lib.hid (Hp_z.out.below b Hp_z.out.lt)
              have Hf_76 := Lib.hid (Hf_z.out.below b Hf_z.out.lt)
              have Hs_76 := Lib.hid (Hs_z.out.below b Hs_z.out.lt)
              have Hr_76 := Lib.hid (Hr_z.out.below b Hr_z.out.lt)
              have Hm_76 := Lib.hid (HMK.out.below b HMK.out.lt)
              clear b
              go_wp2_with (refine wpList_store_row rfl 59 _ _ rfl gm #[.int .u8 240, .int .u8 0] rfl rfl 59 #[.int .u8 255, .int .u8 255] ?_ two_size rfl (two_one _ _) ?_; exact Hm_76.out)
              go_meet
              refine ⟨rfl, ?_, below_setRow HB_76.out HGL.out _⟩
              rw [HK.out]
              exact setRow_heap _ _ _ _ _ _ Hm_76.out
            · have hk : K = 2 := hKv
              have z1 : (e1 == 0) = false := beq_eq_false_iff_ne.2 (fun h => by have := HC.out.1.1 h; omega)
              have z2 : (e2 == 0) = false := beq_eq_false_iff_ne.2 (fun h => by have := HC.out.2.1.1 h; omega)
              have z3 : (e3 == 0) = true := beq_iff_eq.2 (HC.out.2.2.1.2 hk)
              have HK := Lib.hid hk
              clear hk hKv
              have HEN := Lib.hid (show encNV 7 M2 = .tuple #[.string TT, .int .i64 0] from by rw [← HTA.out.2.2.1 HK.out]; rfl)
              go_wp2_with (refine wpList_load_row_w (by rfl) 35 _ rfl g56 rfl 35 (nuv M2) (0, 0) _ ?_ Try.underlying35 rfl fs_size ?_; exact Hs_z.out)
              refine (EncodeFast_any M2 HNM.out.2.1 Z).mono ?_
              rintro e U81 ⟨rfl, b⟩
              rw [HEN.out]
              have HB_81 := Lib.hid (HBZ.out.trans (b.mono HBZ.out.size))
              have Hp_81 := Lib.hid (Hp_z.out.below b Hp_z.out.lt)
              have Hf_81 := Lib.hid (Hf_z.out.below b Hf_z.out.lt)
              have Hs_81 := Lib.hid (Hs_z.out.below b Hs_z.out.lt)
              have Hr_81 := Lib.hid (Hr_z.out.below b Hr_z.out.lt)
              have Hm_81 := Lib.hid (HMK.out.below b HMK.out.lt)
              clear b
              go_wp2_with (refine wpList_store_row rfl 59 _ _ rfl gm #[.int .u8 240, .int .u8 0] rfl rfl 59 #[.int .u8 255, .int .u8 255] ?_ two_size rfl (two_one _ _) ?_; exact Hm_81.out)
              go_meet
              refine ⟨rfl, ?_, below_setRow HB_81.out HGL.out _⟩
              rw [HK.out]
              exact setRow_heap _ _ _ _ _ _ Hm_81.out
            · have hk : K = 3 := hKv
              have z1 : (e1 == 0) = false := beq_eq_false_iff_ne.2 (fun h => by have := HC.out.1.1 h; omega)
              have z2 : (e2 == 0) = false := beq_eq_false_iff_ne.2 (fun h => by have := HC.out.2.1.1 h; omega)
              have z3 : (e3 == 0) = false := beq_eq_false_iff_ne.2 (fun h => by have := HC.out.2.2.1.1 h; omega)
              have z4 : (e4 == 0) = true := beq_iff_eq.2 (HC.out.2.2.2.1.2 hk)
              have HK := Lib.hid hk
              clear hk hKv
              have HEN := Lib.hid (show encTV (F : Int) (R : Int) = .tuple #[.string TT, .int .i64 0] from by rw [← HTA.out.2.2.2.1 HK.out]; exact encTV_t F R (by have := HNM.out; unfold May; omega))
              go_wp2_with (refine wpList_load_row_w (by rfl) 26 _ rfl g58 rfl 26 (rsv (F : Int) (R : Int)) (0, 0) _ ?_ Try.underlying26 rfl rs_size ?_; exact Hr_z.out)
              refine (EncodeRst_any (F : Int) (R : Int) Z).mono ?_
              rintro e U86 ⟨rfl, b⟩
              rw [HEN.out]
              have HB_86 := Lib.hid (HBZ.out.trans (b.mono HBZ.out.size))
              have Hp_86 := Lib.hid (Hp_z.out.below b Hp_z.out.lt)
              have Hf_86 := Lib.hid (Hf_z.out.below b Hf_z.out.lt)
              have Hs_86 := Lib.hid (Hs_z.out.below b Hs_z.out.lt)
              have Hr_86 := Lib.hid (Hr_z.out.below b Hr_z.out.lt)
              have Hm_86 := Lib.hid (HMK.out.below b HMK.out.lt)
              clear b
              go_wp2_with fail
              go_meet
              refine ⟨rfl, ?_, HB_86.out⟩
              rw [HK.out]
              exact Hm_86.out
            · have hk : K = 4 := hKv
              have z1 : (e1 == 0) = false := beq_eq_false_iff_ne.2 (fun h => by have := HC.out.1.1 h; omega)
              have z2 : (e2 == 0) = false := beq_eq_false_iff_ne.2 (fun h => by have := HC.out.2.1.1 h; omega)
              have z3 : (e3 == 0) = false := beq_eq_false_iff_ne.2 (fun h => by have := HC.out.2.2.1.1 h; omega)
              have z4 : (e4 == 0) = false := beq_eq_false_iff_ne.2 (fun h => by have := HC.out.2.2.2.1.1 h; omega)
              have HK := Lib.hid hk
              clear hk hKv
              go_wp2_with fail
              go_meet
              refine ⟨congrArg Value.string (HTA.out.2.2.2.2 HK.out), ?_, HBZ.out⟩
              rw [HK.out]
              exact HMK.out
          case rest =>
          obtain ⟨rfl, hmk, hbw⟩ := hcut
          have HMC := Lib.hid hmk
          have HBC := Lib.hid hbw
          obtain ⟨cap, V5, hcv, hbt, hbl, hvs⟩ := text_bytes wc s
          obtain ⟨g, hg⟩ : ∃ g, g = wc.heap.size := ⟨_, rfl⟩
          rw [← hg] at hbt hvs hcv
          have HM5 := Lib.hid (hmk.below hbl hmk.lt)
          have HB5 := Lib.hid (hbw.trans (hbl.mono hbw.size))
          have HT5 := Lib.hid hbt
          have HGG := Lib.hid (show w.heap.size ≤ g ∧ gm < g from ⟨by rw [hg]; exact hbw.size, by rw [hg]; exact hmk.lt⟩)
          clear hmk hbw hbt hbl hvs hg
          go_upto_block 5 with fail
          clear hcv
          obtain ⟨l, hl⟩ : ∃ l, l = s.data.toList := ⟨_, rfl⟩
          have HLN := Lib.hid (show l.length = s.size by rw [hl]; exact len_data s)
          have HAG2 := HAG.out
          rw [← hl] at HAG2 HT5
          have HAG3 := Lib.hid HAG2
          clear hl HAG2
          obtain ⟨r, hr⟩ : ∃ r, r = if K < 4 then min 2 s.size else 0 := ⟨_, rfl⟩
          have HRR := Lib.hid hr
          have hr2 : r ≤ 2 ∧ r ≤ s.size := by rw [hr]; split <;> omega
          have HR2 := Lib.hid hr2
          clear hr hr2
          go_wp2_with fail
          go_loopw [27] (fun i wx => ∃ q : Nat, q ≤ r ∧ i = .int .i64 (q : Int) ∧ Blk wx gm 59 #[.int .u8 ((mOf K 0).toNat : Int), .int .u8 ((mOf K 1).toNat : Int)] ∧ Bts wx g (msk (mOf K) l q) ∧ Below w.heap.size w wx) (fun i _ => (r - intOf i).toNat)
          case atStart => exact ⟨0, by omega, rfl, HM5.out, HT5.out, HB5.out⟩
          case round =>
            obtain ⟨q, hq, rfl, hmk, hbt, hbl⟩ := hrel
            obtain ⟨V6, hV6⟩ : ∃ V, V = wr := ⟨_, rfl⟩
            have HMR := Lib.hid hmk
            have HTR := Lib.hid hbt
            have HBR2 := Lib.hid hbl
            clear hmk hbt hbl
            by_cases hqr : q < r
            · have hK4 : K < 4 := by
                have := HRR.out
                by_cases h : K < 4
                · exact h
                · rw [if_neg h] at this; omega
              have hm1 : (mm == 1) = true := by rw [HMM.out, if_pos hK4]; rfl
              have hm2 : ((mm : Int) == 1) = true := by rw [HMM.out, if_pos hK4]; rfl
              have i2 : (q : Int) < 2 := by have := HR2.out; omega
              have il : (q : Int) < (s.size : Int) := by have := HR2.out; omega
              obtain ⟨L, hL⟩ : ∃ L, L = msk (mOf K) l q := ⟨_, rfl⟩
              have hLs : L.length = s.size := by rw [hL, msk_length]; exact HLN.out
              have hLq : q < L.length := by omega
              obtain ⟨x, hx⟩ : ∃ x, x = L[q] := ⟨_, rfl⟩
              obtain ⟨mq, hmq⟩ : ∃ y, y = mOf K q := ⟨_, rfl⟩
              have HXQ := Lib.hid (show msk (mOf K) l (q + 1) = L.set q (x &&& mq) by
                rw [msk, ← hL, hx, hmq, List.getD_eq_getElem?_getD, List.getElem?_eq_getElem hLq]; rfl)
              have HTL := Lib.hid (show Bts wr g L by rw [hL]; exact HTR.out)
              have HCX := Lib.hid (fun W (b : Below wr.heap.size wr W) => show W.cell? ⟨g, q, none⟩ = some (.int .u8 (x.toNat : Int)) by rw [hx]; exact (HTL.out.below b HTL.out.1).cell q hLq)
              have HFX := Lib.hid (fun W (b : Below wr.heap.size wr W) => (HTL.out.below b HTL.out.1).frozen q hLq)
              have HCM := Lib.hid (fun W (b : Below wr.heap.size wr W) => show W.cell? ⟨gm, q, none⟩ = some (.int .u8 (mq.toNat : Int)) by
                have h := HMR.out.below b HMR.out.lt
                have q2 : q = 0 ∨ q = 1 := by omega
                rw [hmq]
                rcases q2 with rfl | rfl
                · exact h.cell 0
                · exact h.cell 1)
              have HQR := Lib.hid (show q < r ∧ q < 2 ∧ q < s.size ∧ q < L.length from ⟨hqr, by omega, by omega, hLq⟩)
              have HML := Lib.hid HMR.out.lt
              clear hL hLs hLq hx hmq hqr hq hK4
              go_upto_region 36 with fail
              clear hm1 hm2 i2 il
              have B0 : Below wr.heap.size wr wr.drew := (Below.refl _ wr).drew
              refine walk_start 9 (fun W => Below wr.heap.size wr W) (by kernel_rfl) (n := 10) rfl ?_
              obtain ⟨W0, hW0⟩ : ∃ W0, W0 = wr.drew := ⟨_, rfl⟩
              rw [← hW0] at B0 ⊢
              clear hW0
              refine walk_free 0 (.slice (some ⟨g, 0, none⟩) s.size cap) rfl (by kernel_rfl) (by kernel_rfl) (by kernel_rfl) (by kernel_rfl) (by kernel_rfl) (by kernel_rfl) B0 (fun _ _ => by kernel_rfl) ?_
              refine walk_free 1 (.int .i64 (q : Int)) rfl (by kernel_rfl) (by kernel_rfl) (by kernel_rfl) (by kernel_rfl) (by kernel_rfl) (by kernel_rfl) B0 (fun _ _ => by kernel_rfl) ?_
              refine walk_free 2 (.pointer (some ⟨g, q, none⟩)) rfl (by kernel_rfl) (by kernel_rfl) (by kernel_rfl) (by kernel_rfl) (by kernel_rfl) (by kernel_rfl) B0 (fun W _ => ex_index (t := 45) (x := .tmp 142) (y := .tmp 143) (n := .slice (some ⟨g, 0, none⟩) s.size cap) (i := .int .i64 (q : Int)) (by kernel_rfl) (by kernel_rfl) (by kernel_rfl) (place_at g q s.size cap HQR.out.2.2.1 (by have := HSZ.out; omega) W)) ?_
              refine walk_free 3 (.int .u8 (x.toNat : Int)) rfl (by kernel_rfl) (by kernel_rfl) (by kernel_rfl) (by kernel_rfl) (by kernel_rfl) (by kernel_rfl) B0 (fun W b => ex_load 5 (.tmp 144) (by kernel_rfl) ⟨g, q, none⟩ (by kernel_rfl) (by kernel_rfl) (HCX.out W b)) ?_
              refine walk_free 4 (.int .i64 (q : Int)) rfl (by kernel_rfl) (by kernel_rfl) (by kernel_rfl) (by kernel_rfl) (by kernel_rfl) (by kernel_rfl) B0 (fun _ _ => by kernel_rfl) ?_
              refine walk_free 5 (.pointer (some ⟨gm, q, none⟩)) rfl (by kernel_rfl) (by kernel_rfl) (by kernel_rfl) (by kernel_rfl) (by kernel_rfl) (by kernel_rfl) B0 (fun W _ => ex_index (t := 59) (x := .tmp 24) (y := .tmp 146) (n := .pointer (some ⟨gm, 0, none⟩)) (i := .int .i64 (q : Int)) (by kernel_rfl) (by kernel_rfl) (by kernel_rfl) (place_two gm q HQR.out.2.1 W)) ?_
              refine walk_free 6 (.int .u8 (mq.toNat : Int)) rfl (by kernel_rfl) (by kernel_rfl) (by kernel_rfl) (by kernel_rfl) (by kernel_rfl) (by kernel_rfl) B0 (fun W b => ex_load 5 (.tmp 147) (by kernel_rfl) ⟨gm, q, none⟩ (by kernel_rfl) (by kernel_rfl) (HCM.out W b)) ?_
              refine walk_free 7 (.int .u8 ((x &&& mq).toNat : Int)) rfl (by kernel_rfl) (by kernel_rfl) (by kernel_rfl) (by kernel_rfl) (by kernel_rfl) (by kernel_rfl) B0 (fun _ _ => ex_and8 5 5 (.tmp 145) (.tmp 148) (by kernel_rfl) (x.toNat : Int) (mq.toNat : Int) _ (by kernel_rfl) (by kernel_rfl) (by kernel_rfl) (and8 x mq)) ?_
              refine walk_free 8 (.pointer (some ⟨g, q, none⟩)) rfl (by kernel_rfl) (by kernel_rfl) (by kernel_rfl) (by kernel_rfl) (by kernel_rfl) (by kernel_rfl) B0 (fun W _ => ex_index (t := 45) (x := .tmp 142) (y := .tmp 143) (n := .slice (some ⟨g, 0, none⟩) s.size cap) (i := .int .i64 (q : Int)) (by kernel_rfl) (by kernel_rfl) (by kernel_rfl) (place_at g q s.size cap HQR.out.2.2.1 (by have := HSZ.out; omega) W)) ?_
              refine walk_one 9 (by kernel_rfl) (do_last (w' := W0.setCell ⟨g, q, none⟩ (.int .u8 ((x &&& mq).toNat : Int))) 9 rfl (by kernel_rfl) (ex_store_cell 5 (.tmp 150) (.tmp 149) (by kernel_rfl) ⟨g, q, none⟩ (.int .u8 ((x &&& mq).toNat : Int)) (by kernel_rfl) (by kernel_rfl) (store_byte _ g q _ _ (HCX.out W0 B0) (HFX.out W0 B0))) (by kernel_rfl) ?_)
              refine walk_end (by kernel_rfl) ?_
              obtain ⟨Y6, hY6⟩ : ∃ Y, Y = W0.setCell ⟨g, q, none⟩ (.int .u8 ((x &&& mq).toNat : Int)) := ⟨_, rfl⟩
              have HBY := Lib.hid (show Below w.heap.size w Y6 by rw [hY6]; exact (HBR2.out.trans (B0.mono HBR2.out.size)).setCell (p := ⟨g, q, none⟩) HGG.out.1 _)
              have HTY := Lib.hid (show Bts Y6 g (msk (mOf K) l (q + 1)) by rw [hY6, HXQ.out]; exact (HTL.out.below B0 HTL.out.1).set_ q (x &&& mq) HQR.out.2.2.2)
              have HMY := Lib.hid (show Blk Y6 gm 59 #[.int .u8 ((mOf K 0).toNat : Int), .int .u8 ((mOf K 1).toNat : Int)] by
                rw [hY6]; exact (HMR.out.below B0 HML.out).same (Below.heap_setCell _ ⟨g, q, none⟩ _ gm (Nat.ne_of_lt HGG.out.2)))
              rw [← hY6]
              clear hY6 B0
              have i2 : (q : Int) < 2 := by have := HQR.out.2.1; omega
              go_wp2_with fail
              go_roundw
              case rel => exact ⟨q + 1, by have := HQR.out.1; omega, by go_num, HMY.out, HTY.out, HBY.out⟩
              case measure => have := HQR.out.1; simp [intOf]; omega
            · obtain rfl : q = r := by omega
              have hcb := bytes_text wr g cap s.size _ HTR.out (by rw [msk_length]; exact HLN.out.symm)
              rw [show txt (msk (mOf K) l q) = TT by rw [HAG3.out, ← HRR.out]] at hcb
              have HRQ := HRR.out
              clear hqr hq HMR HTR
              by_cases hK4 : K < 4
              · rw [if_pos hK4] at HRQ
                have hm2 : ((mm : Int) == 1) = true := by rw [HMM.out, if_pos hK4]; rfl
                by_cases h2 : 2 ≤ s.size
                · have i2 : ¬ (q : Int) < 2 := by omega
                  clear HRQ h2 hK4
                  go_wp2_with fail
                  go_roundw
                  case rel => exact ⟨j + 1, by have := HLT.out; omega, by go_num, HBR2.out⟩
                  case measure => simp [intOf]; omega
                · have i2 : (q : Int) < 2 := by omega
                  have il : ¬ (q : Int) < (s.size : Int) := by omega
                  clear HRQ h2 hK4
                  go_wp2_with fail
                  go_roundw
                  case rel => exact ⟨j + 1, by have := HLT.out; omega, by go_num, HBR2.out⟩
                  case measure => simp [intOf]; omega
              · rw [if_neg hK4] at HRQ
                have hm2 : ((mm : Int) == 1) = false := by rw [HMM.out, if_neg hK4]; rfl
                have i2 : (q : Int) < 2 := by omega
                by_cases h0 : (q : Int) < (s.size : Int)
                · clear HRQ hK4
                  go_wp2_with fail
                  go_roundw
                  case rel => exact ⟨j + 1, by have := HLT.out; omega, by go_num, HBR2.out⟩
                  case measure => simp [intOf]; omega
                · clear HRQ hK4
                  go_wp2_with fail
                  go_roundw
                  case rel => exact ⟨j + 1, by have := HLT.out; omega, by go_num, HBR2.out⟩
                  case measure => simp [intOf]; omega
    · obtain rfl : j = 5 := by omega
      clear hlt hj
      go_wp2_with fail
      go_ret
      exact ⟨rfl, HB4.out⟩

theorem own : ownKnob Try.prog.godebug = none := by kernel_rfl
theorem laidOut : laidOutB Try.prog = true := by kernel_rfl

set_option maxRecDepth 100000 in
theorem lifted (os : Os) (started : os.Started) (H : Type) (enc : TypeId × Value → H) :
    ReturnsInHanded {} Try.checked os 6 .any (Rows.ctrlOneSpec.pre6 enc Try.prog Try.f6 Rows.ctrlOneRow.domain false) (Rows.ctrlOneSpec.post enc Try.prog Try.f6 false true false false) := by
  refine returnsInHanded_of_change_sized (C := Try.checked) own started (by kernel_rfl) Try.func6
    (ChangeSpec.witness6 (enc := enc) (C := Try.checked) false ⟨#[], #[.int .u8 0, .agg #[.int .u8 0, .int .u8 0, .int .u8 0, .int .u8 0, .int .u8 0, .int .u8 0, .int .u8 0, .int .u8 0, .int .u8 0], .int .u8 0, .string ByteArray.empty], []⟩ 8 (by kernel_rfl) (by kernel_rfl) (by kernel_rfl) (by kernel_rfl)) ?_
  intro W base args ds gs before hval0 hW hcnd hsz0 _
  have hsz : (DataW.weightsEach Try.prog (Try.f6.params.toList ++ Rows.ctrlOneSpec.plain.varTypes Try.prog) (ds ++ gs)).all (· ≤ reachBytes) = true := hsz0
  have hval : ∀ (j : Nat) t v, Try.f6.params[j]? = some t → args[j]? = some v → Value.okWide Try.prog W .any base t v := hval0
  have hW' := hW
  obtain ⟨p, q, hA0, hV, rfl, hfz, hnd⟩ := hW
  have hA : DataW.TrodAll enc Try.prog W 0 (fun _ => true) true Try.f6.params.toList args.toList ds p := hA0
  rw [Try.params6] at hA hval hsz
  obtain ⟨v0, vs0, d0, ds0, p0, q0, hargs, rfl, rfl, h0, r0⟩ := trodAll_cons hA
  obtain ⟨v1, vs1, d1, ds1, p1, q1, rfl, rfl, rfl, h1, r1⟩ := trodAll_cons r0
  obtain ⟨v2, vs2, d2, ds2, p2, q2, rfl, rfl, rfl, h2, r2⟩ := trodAll_cons r1
  obtain ⟨v3, vs3, d3, ds3, p3, q3, rfl, rfl, rfl, h3, r3⟩ := trodAll_cons r2
  obtain ⟨rfl, rfl, rfl⟩ := trodAll_nil r3
  obtain rfl : args = #[v0, v1, v2, v3] := by cases args; simp_all
  obtain ⟨rfl, rfl⟩ := trodVars_none hV
  obtain ⟨a0, rfl, rfl, rfl, w0⟩ := open_int Try.underlying5 (hval 0 5 v0 rfl rfl) h0
  have k1 := h1
  have lt1 : ∀ x ∈ p1, x.block < W.heap.size := by obtain ⟨m, hm⟩ := k1; exact DataW.trod_lt m _ _ _ hm
  obtain ⟨m, hm, rfl⟩ := open_9 (hval 1 56 v1 rfl rfl) h1
  obtain ⟨a2, rfl, rfl, rfl, w2⟩ := open_int Try.underlying5 (hval 2 5 v2 rfl rfl) h2
  obtain ⟨a3, rfl, rfl, rfl, w3⟩ := open_string Try.underlying9 (hval 3 9 v3 rfl rfl) h3
  have z3 : a3.size ≤ 140737488351232 := by have := sized_string hsz (j := 3) (t := 9) rfl rfl; simpa [reachBytes] using this
  clear hA0 hval0
  simp only [List.append_nil] at hW'
  obtain ⟨l0, u0⟩ := bounds_u8 w0
  obtain ⟨first, rfl⟩ := Int.eq_ofNat_of_zero_le l0
  have hf : first ≤ 255 := by omega
  obtain ⟨l2, u2⟩ := bounds_u8 w2
  obtain ⟨n, rfl⟩ := Int.eq_ofNat_of_zero_le l2
  have hn : n ≤ 255 := by omega
  refine (walk first hf m hm n hn a3 z3 W).mono fun e W' ⟨he, bel⟩ => ?_
  subst he
  exact ⟨_, rfl, _, _, _, [], _, [], hW', trodAll_mk1 (shut_bool Try.underlying4 _), (trodAll_cons_mk (shut_int Try.underlying5 w0) (trodAll_cons_mk (Below.trod laidOut (by kernel_rfl) (of_decide_eq_true (by kernel_rfl)) k1 bel lt1) (trodAll_cons_mk (shut_int Try.underlying5 w2) (trodAll_cons_mk (shut_string Try.underlying9 w3) trodAll_mk0)))), rfl, bel.frame _, fun h => by cases h⟩

theorem over : Rows.ctrlOneRow.holds Try.pinned (OpenSpec.ofChange Rows.ctrlOneSpec) :=
  OpenClaim.holds_of_wide 6 Try.f6 rfl rfl rfl rfl rfl rfl rfl ⟨rfl, rfl, rfl, rfl, rfl⟩ rfl rfl rfl rfl rfl (by kernel_rfl) Try.func6 (by kernel_rfl)
    (of_decide_eq_true (by kernel_rfl)) (by unfold Func.isWrapper; first | (rw [if_pos (by decide +kernel)]; kernel_rfl) | (rw [if_neg (by decide +kernel)]; exact ⟨rfl, rfl⟩))
    (fun os started H enc _ => lifted os started H enc)

theorem proved : Rows.CtrlOneSaid := over
#print axioms proved
end Go.Proofs.Ytbimdlcgjpeheaa.ctrlOne
