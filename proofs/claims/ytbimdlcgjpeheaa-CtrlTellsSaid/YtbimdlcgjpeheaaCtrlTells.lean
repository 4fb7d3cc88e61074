/-
  CtrlTells returns true for all bytes and texts. No conditions.
-/
import Derived.Test.YtbimdlcgjpeheaaCtrlMore
import Derived.WalkKit
import Derived.ProofKit
import Derived.OpenShut
import Derived.ShutString
import Derived.ChangeOld
import Derived.Below
import Derived.SizedLaws
namespace Go.Proofs.Ytbimdlcgjpeheaa.ctrlTells
open Go.ChangeShapes Go.WideShapes Go.ChangeAt Go.RowKit
open Go.ChangeMaps (open_string shut_string)
set_option linter.unusedVariables false

set_option maxHeartbeats 4000000 in
set_option maxRecDepth 100000 in
theorem walk (first : Nat) (hf : first ≤ 255) (m : List UInt8) (hm : m.length = 12) (n : Nat) (hn : n ≤ 255) (raw : ByteArray) (hr : raw.size ≤ 140737488351232) (w : World) :
    Calls Try.prog 4 #[.int .u8 (first : Int), .agg (byv m), .int .u8 (n : Int), .string raw] w fun e w' => e = .returned (.bool true) ∧ Below w.heap.size w w' := by
  obtain ⟨q, hq⟩ : ∃ q, first % 64 = q := ⟨_, rfl⟩
  have hq2 : q < 64 := by omega
  obtain ⟨v, hv⟩ : ∃ v : UInt8, v.toNat = 80 + q := ⟨UInt8.ofNat (80 + q), by rw [UInt8.toNat_ofNat']; omega⟩
  obtain ⟨A, hA⟩ : ∃ A, A = txt [v] := ⟨_, rfl⟩
  obtain ⟨M, hM⟩ : ∃ M, M = txt m := ⟨_, rfl⟩
  obtain ⟨T, hT⟩ : ∃ T, T = txt (v :: m) := ⟨_, rfl⟩
  have HQ := Lib.hid hq
  have HV := Lib.hid (show 80 + q = v.toNat ∧ v.toNat ≤ 255 from ⟨hv.symm, by omega⟩)
  have HA := Lib.hid hA
  have HM := Lib.hid hM
  have HT := Lib.hid (show T = A ++ M by rw [hT, hA, hM]; exact (txt_app [v] m).symm)
  have HS := Lib.hid (show A.size ≤ 20 ∧ M.size ≤ 20 by rw [hA, hM, txt_size, txt_size, hm]; simp)
  have HL := Lib.hid hm
  have hsz : T.size = 13 := by rw [hT, txt_size]; simp [hm]
  have HTT := Lib.hid hT
  clear hq hq2 hv hA hM hT
  obtain ⟨k, hk⟩ : ∃ k, k = n % 13 := ⟨_, rfl⟩
  have hk13 : k < 13 := by omega
  obtain ⟨S0, hS0⟩ : ∃ S, T.extract 0 k = S := ⟨_, rfl⟩
  obtain ⟨S1, hS1⟩ : ∃ S, T.extract 0 1 = S := ⟨_, rfl⟩
  obtain ⟨S2, hS2⟩ : ∃ S, T.extract 0 2 = S := ⟨_, rfl⟩
  obtain ⟨S3, hS3⟩ : ∃ S, T.extract 0 10 = S := ⟨_, rfl⟩
  have K0 := Lib.hid (front_cut T S0 ((n : Int) % 13) k (by omega) (by omega) hS0)
  have K1 := Lib.hid (front_cut T S1 1 1 rfl (by omega) hS1)
  have K2 := Lib.hid (front_cut T S2 2 2 rfl (by omega) hS2)
  have K3 := Lib.hid (front_cut T S3 10 10 rfl (by omega) hS3)
  have KC := Lib.hid (conv_u8_i64 (n : Int) n rfl hn)
  have HZ := Lib.hid (show S0.size ≤ 13 ∧ S1.size ≤ 13 ∧ S2.size ≤ 13 ∧ S3.size ≤ 13 ∧ raw.size ≤ 9223372036854775807 by
    rw [← hS0, ← hS1, ← hS2, ← hS3, ByteArray.size_extract, ByteArray.size_extract, ByteArray.size_extract, ByteArray.size_extract]; omega)
  obtain ⟨br, hbr⟩ : ∃ b, b = w.heap.size := ⟨_, rfl⟩
  obtain ⟨V, hV⟩ : ∃ V, V = w.alloc (.cells (byv m) 44) := ⟨_, rfl⟩
  have HR := Lib.hid (show Blk V br 44 (byv m) by rw [hV, hbr]; exact Blk.new _ _ _)
  have HBV := Lib.hid (show Below w.heap.size w V by rw [hV]; exact (Below.refl _ w).alloc (Nat.le_refl _) _)
  have HV0 := Lib.hid hV
  have HBR := Lib.hid hbr
  clear hk hk13 hS0 hS1 hS2 hS3 hV hbr hn hr hm hsz hf
  go_enter Try.func4, Try.ntmps4
  go_upto_region 1 with fail
  rw [← HV0.out, ← HBR.out]
  have B0 : Below V.heap.size V V.drew := (Below.refl _ V).drew
  refine held_start (fun W => Below V.heap.size V W) (by kernel_rfl) (n := 9) rfl ?_
  obtain ⟨W0, hW0⟩ : ∃ W0, W0 = V.drew := ⟨_, rfl⟩
  rw [← hW0] at B0 ⊢
  clear hW0
  refine held_free 0 (.int .u8 (first : Int)) rfl (by kernel_rfl) (by kernel_rfl) (by kernel_rfl) (by kernel_rfl) B0 (fun _ _ => by kernel_rfl) ?_
  refine held_free 1 (.int .u8 (q : Int)) rfl (by kernel_rfl) (by kernel_rfl) (by kernel_rfl) (by kernel_rfl) B0 (fun _ _ => ex_rem8 5 5 (.tmp 10) (.const (.int .u8 64)) (by kernel_rfl) first 64 q (by kernel_rfl) (by kernel_rfl) (by kernel_rfl) (by decide) HQ.out) ?_
  refine held_free 2 (.int .u8 (v.toNat : Int)) rfl (by kernel_rfl) (by kernel_rfl) (by kernel_rfl) (by kernel_rfl) B0 (fun _ _ => ex_add8 5 5 (.const (.int .u8 80)) (.tmp 11) (by kernel_rfl) 80 q v.toNat (by kernel_rfl) (by kernel_rfl) (by kernel_rfl) HV.out.1 HV.out.2) ?_
  refine held_free 5 (.slice (some ⟨br, 0, none⟩) 12 12) rfl (by kernel_rfl) (by kernel_rfl) (by kernel_rfl) (by kernel_rfl) B0 (fun W _ => ex_slice0 44 (.tmp 5) (by kernel_rfl) (v := .pointer (some ⟨br, 0, none⟩)) (by kernel_rfl) (all_12 W br)) ?_
  refine held_free 6 (.string M) rfl (by kernel_rfl) (by kernel_rfl) (by kernel_rfl) (by kernel_rfl) B0 (fun W b => ex_convert_to (v := .slice (some ⟨br, 0, none⟩) 12 12) 45 9 (.tmp 15) (by kernel_rfl) (by kernel_rfl) (by rw [HM.out]; exact row_txt W br 12 _ m HL.out (HR.out.below b HR.out.lt))) ?_
  obtain ⟨W1, hW1⟩ : ∃ w', w' = W0.alloc (.cells #[.int .u8 (v.toNat : Int)] 5) := ⟨_, rfl⟩
  have NB : Blk W1 W0.heap.size 5 #[.int .u8 (v.toNat : Int)] := by rw [hW1]; exact Blk.new _ _ _
  have B1 : Below V.heap.size V W1 := by rw [hW1]; exact B0.alloc B0.size _
  refine held_lone (v := .slice (some ⟨W0.heap.size, 0, none⟩) 1 1) (w' := W1) 3 rfl (by kernel_rfl) (by kernel_rfl) (by rw [hW1]; exact ex_byte1 (.tmp 12) (by kernel_rfl) v (by kernel_rfl)) B1 ?_
  clear hW1
  refine held_lone (v := .string A) (w' := W1) 4 rfl (by kernel_rfl) (by kernel_rfl) (ex_convert_to (v := .slice (some ⟨W0.heap.size, 0, none⟩) 1 1) 45 9 (.tmp 13) (by kernel_rfl) (by kernel_rfl) (by rw [HA.out]; exact one_txt _ _ v NB)) B1 ?_
  refine held_free 7 (.string T) rfl (by kernel_rfl) (by kernel_rfl) (by kernel_rfl) (by kernel_rfl) B1 (fun _ _ => ex_strcat 9 9 (.tmp 14) (.tmp 16) (by kernel_rfl) (A) (M) T (by kernel_rfl) (by kernel_rfl) (by have := HS.out; omega) (by have := HS.out; omega) HT.out) ?_
  refine held_free 8 (.string T) rfl (by kernel_rfl) (by kernel_rfl) (by kernel_rfl) (by kernel_rfl) B1 (fun _ _ => by kernel_rfl) ?_
  refine held_end (by kernel_rfl) ?_
  have HB_0 := Lib.hid (HBV.out.trans (B1.mono HBV.out.size))
  obtain ⟨V1, hV1⟩ : ∃ V, V = W1 := ⟨_, rfl⟩
  rw [← hV1] at HB_0
  rw [← hV1]
  clear B1 NB hV1
  have k0 := K0.out
  have k1 := K1.out
  have k2 := K2.out
  have k3 := K3.out
  have kc := KC.out
  go_wp2_with fail
  refine (reads_t S0 (by have := HZ.out; omega) V1).mono ?_
  rintro e U1 ⟨rfl, b⟩
  have HB_1 := Lib.hid (HB_0.out.trans (b.mono HB_0.out.size))
  clear b
  go_wp2_with fail
  refine (reads_t S1 (by have := HZ.out; omega) U1).mono ?_
  rintro e U2 ⟨rfl, b⟩
  have HB_2 := Lib.hid (HB_1.out.trans (b.mono HB_1.out.size))
  clear b
  go_wp2_with fail
  refine (reads_t S2 (by have := HZ.out; omega) U2).mono ?_
  rintro e U3 ⟨rfl, b⟩
  have HB_3 := Lib.hid (HB_2.out.trans (b.mono HB_2.out.size))
  clear b
  go_wp2_with fail
  refine (reads_t S3 (by have := HZ.out; omega) U3).mono ?_
  rintro e U4 ⟨rfl, b⟩
  have HB_4 := Lib.hid (HB_3.out.trans (b.mono HB_3.out.size))
  clear b
  go_wp2_with fail
  refine (reads_t raw HZ.out.2.2.2.2 U4).mono ?_
  rintro e U5 ⟨rfl, b⟩
  have HB_5 := Lib.hid (HB_4.out.trans (b.mono HB_4.out.size))
  clear b
  go_wp2_with fail
  refine (works_t U5).mono ?_
  rintro e U6 ⟨rfl, b⟩
  have HB_6 := Lib.hid (HB_5.out.trans (b.mono HB_5.out.size))
  clear b
  go_wp2_with fail
  go_ret; exact ⟨rfl, HB_6.out⟩

theorem own : ownKnob Try.prog.godebug = none := by kernel_rfl
theorem laidOut : laidOutB Try.prog = true := by kernel_rfl

set_option maxRecDepth 100000 in
theorem lifted (os : Os) (started : os.Started) (H : Type) (enc : TypeId × Value → H) :
    ReturnsInHanded {} Try.checked os 4 .any (Rows.ctrlTellsSpec.pre6 enc Try.prog Try.f4 Rows.ctrlTellsRow.domain false) (Rows.ctrlTellsSpec.post enc Try.prog Try.f4 false true false false) := by
  refine returnsInHanded_of_change_sized (C := Try.checked) own started (by kernel_rfl) Try.func4
    (ChangeSpec.witness6 (enc := enc) (C := Try.checked) false ⟨#[], #[.int .u8 0, .agg #[.int .u8 0, .int .u8 0, .int .u8 0, .int .u8 0, .int .u8 0, .int .u8 0, .int .u8 0, .int .u8 0, .int .u8 0, .int .u8 0, .int .u8 0, .int .u8 0], .int .u8 0, .string ByteArray.empty], []⟩ 8 (by kernel_rfl) (by kernel_rfl) (by kernel_rfl) (by kernel_rfl)) ?_
  intro W base args ds gs before hval0 hW hcnd hsz0 _
  have hsz : (DataW.weightsEach Try.prog (Try.f4.params.toList ++ Rows.ctrlTellsSpec.plain.varTypes Try.prog) (ds ++ gs)).all (· ≤ reachBytes) = true := hsz0
  have hval : ∀ (j : Nat) t v, Try.f4.params[j]? = some t → args[j]? = some v → Value.okWide Try.prog W .any base t v := hval0
  have hW' := hW
  obtain ⟨p, q, hA0, hV, rfl, hfz, hnd⟩ := hW
  have hA : DataW.TrodAll enc Try.prog W 0 (fun _ => true) true Try.f4.params.toList args.toList ds p := hA0
  rw [Try.params4] at hA hval hsz
  obtain ⟨v0, vs0, d0, ds0, p0, q0, hargs, rfl, rfl, h0, r0⟩ := trodAll_cons hA
  obtain ⟨v1, vs1, d1, ds1, p1, q1, rfl, rfl, rfl, h1, r1⟩ := trodAll_cons r0
  obtain ⟨v2, vs2, d2, ds2, p2, q2, rfl, rfl, rfl, h2, r2⟩ := trodAll_cons r1
  obtain ⟨v3, vs3, d3, ds3, p3, q3, rfl, rfl, rfl, h3, r3⟩ := trodAll_cons r2
  obtain ⟨rfl, rfl, rfl⟩ := trodAll_nil r3
  obtain rfl : args = #[v0, v1, v2, v3] := by cases args; simp_all
  obtain ⟨rfl, rfl⟩ := trodVars_none hV
  obtain ⟨a0, rfl, rfl, rfl, w0⟩ := open_int Try.underlying5 (hval 0 5 v0 rfl rfl) h0
  have k1 := h1
  have lt1 : ∀ x ∈ p1, x.block < W.heap.size := by obtain ⟨m, hm⟩ := k1; exact DataW.trod_lt m _ _ _ hm
  obtain ⟨m, hm, rfl⟩ := open_12 (hval 1 44 v1 rfl rfl) h1
  obtain ⟨a2, rfl, rfl, rfl, w2⟩ := open_int Try.underlying5 (hval 2 5 v2 rfl rfl) h2
  obtain ⟨a3, rfl, rfl, rfl, w3⟩ := open_string Try.underlying9 (hval 3 9 v3 rfl rfl) h3
  have z3 : a3.size ≤ 140737488351232 := by have := sized_string hsz (j := 3) (t := 9) rfl rfl; simpa [reachBytes] using this
  clear hA0 hval0
  simp only [List.append_nil] at hW'
  obtain ⟨l0, u0⟩ := bounds_u8 w0
  obtain ⟨first, rfl⟩ := Int.eq_ofNat_of_zero_le l0
  have hf : first ≤ 255 := by omega
  obtain ⟨l2, u2⟩ := bounds_u8 w2
  obtain ⟨n, rfl⟩ := Int.eq_ofNat_of_zero_le l2
  have hn : n ≤ 255 := by omega
  refine (walk first hf m hm n hn a3 z3 W).mono fun e W' ⟨he, bel⟩ => ?_
  subst he
  exact ⟨_, rfl, _, _, _, [], _, [], hW', trodAll_mk1 (shut_bool Try.underlying4 _), (trodAll_cons_mk (shut_int Try.underlying5 w0) (trodAll_cons_mk (Below.trod laidOut (by kernel_rfl) (of_decide_eq_true (by kernel_rfl)) k1 bel lt1) (trodAll_cons_mk (shut_int Try.underlying5 w2) (trodAll_cons_mk (shut_string Try.underlying9 w3) trodAll_mk0)))), rfl, bel.frame _, fun h => by cases h⟩

theorem over : Rows.ctrlTellsRow.holds Try.pinned (OpenSpec.ofChange Rows.ctrlTellsSpec) :=
  OpenClaim.holds_of_wide 4 Try.f4 rfl rfl rfl rfl rfl rfl rfl ⟨rfl, rfl, rfl, rfl, rfl⟩ rfl rfl rfl rfl rfl (by kernel_rfl) Try.func4 (by kernel_rfl)
    (of_decide_eq_true (by kernel_rfl)) (by unfold Func.isWrapper; first | (rw [if_pos (by decide +kernel)]; kernel_rfl) | (rw [if_neg (by decide +kernel)]; exact ⟨rfl, rfl⟩))
    (fun os started H enc _ => lifted os started H enc)

theorem proved : Rows.CtrlTellsSaid := over
#print axioms proved
end Go.Proofs.Ytbimdlcgjpeheaa.ctrlTells
