/-
  What EncodeRst of package ctrl, and the document's own, answer, each by its walk.
-/
import Derived.Test.YtbimdlcgjpeheaaCtrlWalks
import Derived.Test.YtbimdlcgjpeheaaHeldSteps
import Derived.Test.YtbimdlcgjpeheaaNumRefs
namespace Go.Proofs.Ytbimdlcgjpeheaa
open Go.ChangeShapes Go.WideShapes Go.ChangeAt Go.RowKit
set_option linter.unusedVariables false

theorem encTV_t (f r : Nat) (h : May (f : Int) (r : Int)) : encTV (f : Int) (r : Int) = .tuple #[.string (rstT f r), .int .i64 0] := by unfold encTV; rw [encT_t _ _ h]; rfl
theorem encTV_f (f r : Int) (h : ¬ May f r) : encTV f r = .tuple #[.string ⟨#[]⟩, .int .i64 2] := by unfold encTV; rw [encT_f _ _ h]
theorem ex_add8 {ρ : Operand → Value} {o : Oper} {w : World} (t u : TypeId) (x y : Operand) (ho : o.op = .binOp .add t x y u) (a b c : Nat) (hx : ρ x = .int .u8 (a : Int)) (hy : ρ y = .int .u8 (b : Int)) (ht : Try.prog.underlying t = some (.int .u8)) (h : a + b = c) (hc : c ≤ 255) :
    (execOp ρ o).run Try.prog w = .ok (.value (.int .u8 (c : Int))) w := by
  have e : IntKind.u8.wrap ((a : Int) + (b : Int)) = (c : Int) := by rw [IntKind.wrap_u8]; omega
  unfold execOp
  rw [ho]
  simp [hx, hy, go_sem, e]
theorem ex_add_i64 {ρ : Operand → Value} {o : Oper} {w : World} (t u : TypeId) (x y : Operand) (ho : o.op = .binOp .add t x y u) (a b c : Nat) (hx : ρ x = .int .i64 (a : Int)) (hy : ρ y = .int .i64 (b : Int)) (ht : Try.prog.underlying t = some (.int .i64)) (h : a + b = c) (hc : c ≤ 255) :
    (execOp ρ o).run Try.prog w = .ok (.value (.int .i64 (c : Int))) w := by
  have e : IntKind.i64.wrap ((a : Int) + (b : Int)) = (c : Int) := by rw [IntKind.wrap_i64]; omega
  unfold execOp
  rw [ho]
  simp [hx, hy, go_sem, e]
theorem conv_i64_u64 (n : Nat) (h : n ≤ 9223372036854775807) (w : World) : (convert 3 24 (.int .i64 (n : Int))).run Try.prog w = .ok (.int .u64 (n : Int)) w := by
  rw [run_convert_int w 3 24 .i64 _ (by kernel_rfl) (by kernel_rfl), show Try.prog.intKind 24 = .u64 by kernel_rfl, IntKind.wrap_u64, show (n : Int) % 18446744073709551616 = (n : Int) by omega]
set_option maxHeartbeats 1000000 in
set_option maxRecDepth 100000 in
theorem EncodeRst_t (f r : Nat) (hm : May (f : Int) (r : Int)) (w : World) :
    Calls Try.prog 14 #[.agg (rsv (f : Int) (r : Int))] w fun e w' => e = .returned (encTV (f : Int) (r : Int)) ∧ Below w.heap.size w w' := by
  rw [encTV_t f r hm]
  have HF := Lib.hid (show f ≤ 15 by unfold May at hm; omega)
  have HR := Lib.hid (show r ≤ 255 by unfold May at hm; omega)
  have HD := Lib.hid (show decide (May (f : Int) (r : Int)) = true from decide_eq_true hm)
  obtain ⟨m, hmf⟩ : ∃ m, 128 + f = m := ⟨_, rfl⟩
  have HM := Lib.hid (show m ≤ 255 by have := HF.out; omega)
  have HMF := Lib.hid hmf
  obtain ⟨T, hT⟩ : ∃ T, T = rstT f r := ⟨_, rfl⟩
  rw [← hT]
  obtain ⟨A, hA⟩ : ∃ A, A = txt [UInt8.ofNat m] := ⟨_, rfl⟩
  have HA := Lib.hid (show (⟨#[]⟩ : ByteArray) ++ ⟨(be 1 m).toArray⟩ = A by rw [hA]; exact one_byte _)
  have HT := Lib.hid (show A ++ ⟨(be 1 r).toArray⟩ = T by rw [hA, hT, rstT, hmf, show (be 1 r) = [UInt8.ofNat r] by simp [be]]; exact txt_app [UInt8.ofNat m] [UInt8.ofNat r])
  have HS := Lib.hid (show A.size ≤ 1 ∧ T.size ≤ 2 by rw [hA, hT, txt_size, rstT_size]; exact ⟨by simp, by omega⟩)
  obtain ⟨w0, hw0⟩ : ∃ w0, w0 = w.alloc (.cells (rsv (f : Int) (r : Int)) 26) := ⟨_, rfl⟩
  obtain ⟨b0, hb0⟩ : ∃ b0, b0 = w.heap.size := ⟨_, rfl⟩
  have hc0 : Blk w0 b0 26 (rsv (f : Int) (r : Int)) := by rw [hw0, hb0]; exact Blk.new _ _ _
  have HBW := Lib.hid (show Below w.heap.size w w0 by rw [hw0]; exact (Below.refl _ w).alloc (Nat.le_refl _) _)
  have HCC := Lib.hid (show Blk (w.alloc (.cells (rsv (f : Int) (r : Int)) 26)) w.heap.size 26 (rsv (f : Int) (r : Int)) from Blk.new _ _ _)
  have HC0 := Lib.hid hc0
  have HW0 := Lib.hid hw0
  have HB0 := Lib.hid hb0
  clear hm hmf hT hA hw0 hb0 hc0
  go_enter Try.func14, Try.ntmps14
  go_wp2_with (refine wpList_load_row rfl 26 _ rfl w.heap.size rfl 26 (rsv (f : Int) (r : Int)) (0, 0) _ ?_ Try.underlying26 rfl rs_size ?_; exact HCC.out)
  refine (validRst_any (f : Int) (r : Int) _).mono ?_
  rintro e V ⟨rfl, bv⟩
  rw [HD.out]
  have bv0 : Below w0.heap.size w0 V := by rw [HW0.out]; exact bv
  have HC := Lib.hid (HC0.out.below bv0 HC0.out.lt)
  have HBV := Lib.hid (HBW.out.trans (bv0.mono HBW.out.size))
  clear bv bv0 HCC
  go_upto_region 3 with fail
  rw [← HB0.out]
  have B0 : Below V.heap.size V V.drew := (Below.refl _ V).drew
  refine held_start (fun W => Below V.heap.size V W) (by kernel_rfl) (n := 11) rfl ?_
  obtain ⟨W0, hW0⟩ : ∃ W0, W0 = V.drew := ⟨_, rfl⟩
  rw [← hW0] at B0 ⊢
  clear hW0
  refine held_free 0 (.pointer (some ⟨b0, 0, none⟩)) rfl (by kernel_rfl) (by kernel_rfl) (by kernel_rfl) (by kernel_rfl) B0 (fun _ _ => ex_field (v := .pointer (some ⟨b0, 0, none⟩)) 26 (.tmp 1) 0 (by kernel_rfl) (by kernel_rfl) (by kernel_rfl)) ?_
  refine held_free 1 (.int .i64 (f : Int)) rfl (by kernel_rfl) (by kernel_rfl) (by kernel_rfl) (by kernel_rfl) B0 (fun W b => ex_load 3 (.tmp 7) (by kernel_rfl) ⟨b0, 0, none⟩ (by kernel_rfl) (by kernel_rfl) ((HC.out.below b HC.out.lt).cell 0)) ?_
  refine held_free 2 (.int .u8 (f : Int)) rfl (by kernel_rfl) (by kernel_rfl) (by kernel_rfl) (by kernel_rfl) B0 (fun W _ => ex_convert_to (v := .int .i64 (f : Int)) 3 5 (.tmp 8) (by kernel_rfl) (by kernel_rfl) (conv_i64_u8 (f : Int) f (by have := HF.out; have := HR.out; omega) W)) ?_
  refine held_free 3 (.int .u8 (m : Int)) rfl (by kernel_rfl) (by kernel_rfl) (by kernel_rfl) (by kernel_rfl) B0 (fun _ _ => ex_add8 5 5 (.const (.int .u8 128)) (.tmp 9) (by kernel_rfl) 128 f m (by kernel_rfl) (by kernel_rfl) (by kernel_rfl) HMF.out HM.out) ?_
  refine held_free 5 (.pointer (some ⟨b0, 1, none⟩)) rfl (by kernel_rfl) (by kernel_rfl) (by kernel_rfl) (by kernel_rfl) B0 (fun _ _ => ex_field (v := .pointer (some ⟨b0, 0, none⟩)) 26 (.tmp 1) 1 (by kernel_rfl) (by kernel_rfl) (by kernel_rfl)) ?_
  refine held_free 6 (.int .i64 (r : Int)) rfl (by kernel_rfl) (by kernel_rfl) (by kernel_rfl) (by kernel_rfl) B0 (fun W b => ex_load 3 (.tmp 12) (by kernel_rfl) ⟨b0, 1, none⟩ (by kernel_rfl) (by kernel_rfl) ((HC.out.below b HC.out.lt).cell 1)) ?_
  refine held_free 7 (.int .u8 (r : Int)) rfl (by kernel_rfl) (by kernel_rfl) (by kernel_rfl) (by kernel_rfl) B0 (fun W _ => ex_convert_to (v := .int .i64 (r : Int)) 3 5 (.tmp 13) (by kernel_rfl) (by kernel_rfl) (conv_i64_u8 (r : Int) r (by have := HF.out; have := HR.out; omega) W)) ?_
  refine held_call 4 rfl (by kernel_rfl) (by kernel_rfl) (by kernel_rfl) (answer (Put8_any ⟨#[]⟩ m _ (by decide) HM.out) (congrArg Value.string HA.out)) (fun w' h => bel_in B0 h) ?_
  intro W1 hW1
  have B1 := bel_in B0 hW1
  clear hW1 B0
  refine held_call 8 rfl (by kernel_rfl) (by kernel_rfl) (by kernel_rfl) (answer (Put8_any A r _ (by have := HS.out.1; omega) HR.out) (congrArg Value.string HT.out)) (fun w' h => bel_in B1 h) ?_
  intro W2 hW2
  have B2 := bel_in B1 hW2
  clear hW2 B1
  refine held_free 9 (.string T) rfl (by kernel_rfl) (by kernel_rfl) (by kernel_rfl) (by kernel_rfl) B2 (fun _ _ => by kernel_rfl) ?_
  refine held_free 10 (.int .i64 0) rfl (by kernel_rfl) (by kernel_rfl) (by kernel_rfl) (by kernel_rfl) B2 (fun _ _ => by kernel_rfl) ?_
  refine held_end (by kernel_rfl) ?_
  have HE := Lib.hid (HBV.out.trans (B2.mono HBV.out.size))
  go_wp2_with fail
  exact ret_two 2 3 (.string T) (.int .i64 0) (by kernel_rfl) (by kernel_rfl) (by kernel_rfl) (by kernel_rfl) ⟨rfl, HE.out⟩
set_option maxRecDepth 100000 in
theorem EncodeRst_f (f r : Int) (hm : ¬ May f r) (w : World) :
    Calls Try.prog 14 #[.agg (rsv f r)] w fun e w' => e = .returned (encTV f r) ∧ Below w.heap.size w w' := by
  rw [encTV_f f r hm]
  have HD := Lib.hid (show decide (May f r) = false from decide_eq_false hm)
  have HCC := Lib.hid (Blk.new w 26 (rsv f r))
  have HB := Lib.hid ((Below.refl _ w).alloc (Nat.le_refl _) (.cells (rsv f r) 26))
  clear hm
  go_enter Try.func14, Try.ntmps14
  go_wp2_with (refine wpList_load_row rfl 26 _ rfl w.heap.size rfl 26 (rsv f r) (0, 0) _ ?_ Try.underlying26 rfl rs_size ?_; exact HCC.out)
  refine (validRst_any f r _).mono ?_
  rintro e V ⟨rfl, bv⟩
  rw [HD.out]
  go_wp2_with fail
  exact ret_two 2 3 (.string ⟨#[]⟩) (.int .i64 2) (by kernel_rfl) (by kernel_rfl) (by kernel_rfl) (by kernel_rfl) ⟨rfl, bel_in HB.out bv⟩
theorem EncodeRst_any (f r : Int) (w : World) :
    Calls Try.prog 14 #[.agg (rsv f r)] w fun e w' => e = .returned (encTV f r) ∧ Below w.heap.size w w' := by
  by_cases hm : May f r
  · obtain ⟨n, rfl⟩ := Int.eq_ofNat_of_zero_le hm.1.1
    obtain ⟨k, rfl⟩ := Int.eq_ofNat_of_zero_le hm.2.1
    exact EncodeRst_t n k hm w
  · exact EncodeRst_f f r hm w
set_option maxHeartbeats 1000000 in
set_option maxRecDepth 100000 in
theorem encR_t (f r : Nat) (hm : May (f : Int) (r : Int)) (w : World) :
    Calls Try.prog 15 #[.agg (rsv (f : Int) (r : Int))] w fun e w' => e = .returned (encTV (f : Int) (r : Int)) ∧ Below w.heap.size w w' := by
  rw [encTV_t f r hm]
  have l0 : ¬ (f : Int) < 0 := by omega
  have l1 : (f : Int) ≤ 15 := hm.1.2
  have l2 : ¬ (r : Int) < 0 := by omega
  have l3 : (r : Int) ≤ 255 := hm.2.2
  have HF := Lib.hid (show f ≤ 15 by unfold May at hm; omega)
  have HR := Lib.hid (show r ≤ 255 by unfold May at hm; omega)
  have HD := Lib.hid (show decide (May (f : Int) (r : Int)) = true from decide_eq_true hm)
  obtain ⟨m, hmf⟩ : ∃ m, 128 + f = m := ⟨_, rfl⟩
  have HM := Lib.hid (show m ≤ 255 by have := HF.out; omega)
  have HMF := Lib.hid hmf
  obtain ⟨T, hT⟩ : ∃ T, T = rstT f r := ⟨_, rfl⟩
  rw [← hT]
  obtain ⟨A, hA⟩ : ∃ A, A = txt (be 1 m) := ⟨_, rfl⟩
  obtain ⟨R, hR⟩ : ∃ R, R = txt (be 1 r) := ⟨_, rfl⟩
  have HA := Lib.hid hA.symm
  have HRR := Lib.hid hR.symm
  have HT := Lib.hid (show A ++ R = T by rw [hA, hR, hT, rstT, hmf, show be 1 m = [UInt8.ofNat m] by simp [be], show be 1 r = [UInt8.ofNat r] by simp [be]]; exact txt_app [UInt8.ofNat m] [UInt8.ofNat r])
  have HS := Lib.hid (show A.size ≤ 1 ∧ R.size ≤ 1 by rw [hA, hR, be_len, be_len]; omega)
  obtain ⟨V, hV⟩ : ∃ V, V = w.alloc (.cells (rsv (f : Int) (r : Int)) 26) := ⟨_, rfl⟩
  obtain ⟨b0, hb0⟩ : ∃ b0, b0 = w.heap.size := ⟨_, rfl⟩
  have HC := Lib.hid (show Blk V b0 26 (rsv (f : Int) (r : Int)) by rw [hV, hb0]; exact Blk.new _ _ _)
  have HBV := Lib.hid (show Below w.heap.size w V by rw [hV]; exact (Below.refl _ w).alloc (Nat.le_refl _) _)
  have HB0 := Lib.hid hb0
  have HV := Lib.hid hV
  clear hm hmf hT hA hR hV hb0
  go_enter Try.func15, Try.ntmps15
  go_upto_region 3 with fail
  rw [← HV.out, ← HB0.out]
  clear l0 l1 l2 l3
  have B0 : Below V.heap.size V V.drew := (Below.refl _ V).drew
  refine held_start (fun W => Below V.heap.size V W) (by kernel_rfl) (n := 12) rfl ?_
  obtain ⟨W0, hW0⟩ : ∃ W0, W0 = V.drew := ⟨_, rfl⟩
  rw [← hW0] at B0 ⊢
  clear hW0
  refine held_free 0 (.pointer (some ⟨b0, 0, none⟩)) rfl (by kernel_rfl) (by kernel_rfl) (by kernel_rfl) (by kernel_rfl) B0 (fun _ _ => ex_field (v := .pointer (some ⟨b0, 0, none⟩)) 26 (.tmp 1) 0 (by kernel_rfl) (by kernel_rfl) (by kernel_rfl)) ?_
  refine held_free 1 (.int .i64 (f : Int)) rfl (by kernel_rfl) (by kernel_rfl) (by kernel_rfl) (by kernel_rfl) B0 (fun W b => ex_load 3 (.tmp 22) (by kernel_rfl) ⟨b0, 0, none⟩ (by kernel_rfl) (by kernel_rfl) ((HC.out.below b HC.out.lt).cell 0)) ?_
  refine held_free 2 (.int .i64 (m : Int)) rfl (by kernel_rfl) (by kernel_rfl) (by kernel_rfl) (by kernel_rfl) B0 (fun _ _ => ex_add_i64 3 3 (.const (.int .i64 128)) (.tmp 23) (by kernel_rfl) 128 f m (by kernel_rfl) (by kernel_rfl) (by kernel_rfl) HMF.out HM.out) ?_
  refine held_free 3 (.int .u64 (m : Int)) rfl (by kernel_rfl) (by kernel_rfl) (by kernel_rfl) (by kernel_rfl) B0 (fun W _ => ex_convert_to (v := .int .i64 (m : Int)) 3 24 (.tmp 24) (by kernel_rfl) (by kernel_rfl) (conv_i64_u64 m (by have := HM.out; have := HR.out; omega) W)) ?_
  refine held_free 5 (.pointer (some ⟨b0, 1, none⟩)) rfl (by kernel_rfl) (by kernel_rfl) (by kernel_rfl) (by kernel_rfl) B0 (fun _ _ => ex_field (v := .pointer (some ⟨b0, 0, none⟩)) 26 (.tmp 1) 1 (by kernel_rfl) (by kernel_rfl) (by kernel_rfl)) ?_
  refine held_free 6 (.int .i64 (r : Int)) rfl (by kernel_rfl) (by kernel_rfl) (by kernel_rfl) (by kernel_rfl) B0 (fun W b => ex_load 3 (.tmp 27) (by kernel_rfl) ⟨b0, 1, none⟩ (by kernel_rfl) (by kernel_rfl) ((HC.out.below b HC.out.lt).cell 1)) ?_
  refine held_free 7 (.int .u64 (r : Int)) rfl (by kernel_rfl) (by kernel_rfl) (by kernel_rfl) (by kernel_rfl) B0 (fun W _ => ex_convert_to (v := .int .i64 (r : Int)) 3 24 (.tmp 28) (by kernel_rfl) (by kernel_rfl) (conv_i64_u64 r (by have := HM.out; have := HR.out; omega) W)) ?_
  refine held_call 4 rfl (by kernel_rfl) (by kernel_rfl) (by kernel_rfl) (Laid_t m 1 A _ (by have := HM.out; omega) (by decide) (by decide) HA.out) (fun w' h => bel_in B0 h) ?_
  intro W1 hW1
  have B1 := bel_in B0 hW1
  clear hW1 B0
  refine held_call 8 rfl (by kernel_rfl) (by kernel_rfl) (by kernel_rfl) (Laid_t r 1 R _ (by have := HR.out; omega) (by decide) (by decide) HRR.out) (fun w' h => bel_in B1 h) ?_
  intro W2 hW2
  have B2 := bel_in B1 hW2
  clear hW2 B1
  refine held_free 9 (.string T) rfl (by kernel_rfl) (by kernel_rfl) (by kernel_rfl) (by kernel_rfl) B2 (fun _ _ => ex_strcat 9 9 (.tmp 26) (.tmp 30) (by kernel_rfl) (A) (R) T (by kernel_rfl) (by kernel_rfl) (by have := HS.out.1; omega) (by have := HS.out.2; omega) HT.out.symm) ?_
  refine held_free 10 (.string T) rfl (by kernel_rfl) (by kernel_rfl) (by kernel_rfl) (by kernel_rfl) B2 (fun _ _ => by kernel_rfl) ?_
  refine held_free 11 (.int .i64 0) rfl (by kernel_rfl) (by kernel_rfl) (by kernel_rfl) (by kernel_rfl) B2 (fun _ _ => by kernel_rfl) ?_
  refine held_end (by kernel_rfl) ?_
  have HE := Lib.hid (HBV.out.trans (B2.mono HBV.out.size))
  go_wp2_with fail
  exact ret_two 2 3 (.string T) (.int .i64 0) (by kernel_rfl) (by kernel_rfl) (by kernel_rfl) (by kernel_rfl) ⟨rfl, HE.out⟩
set_option maxRecDepth 100000 in
theorem encR_f (f r : Int) (hm : ¬ May f r) (w : World) :
    Calls Try.prog 15 #[.agg (rsv f r)] w fun e w' => e = .returned (encTV f r) ∧ Below w.heap.size w w' := by
  rw [encTV_f f r hm]
  have HB := Lib.hid ((Below.refl _ w).alloc (Nat.le_refl _) (.cells (rsv f r) 26))
  have HM := Lib.hid hm
  clear hm
  by_cases h1 : f < 0
  · skip
    go_enter Try.func15, Try.ntmps15
    go_wp2
    exact ret_two 2 3 (.string ⟨#[]⟩) (.int .i64 2) (by kernel_rfl) (by kernel_rfl) (by kernel_rfl) (by kernel_rfl) ⟨rfl, HB.out⟩
  by_cases h2 : 15 < f
  · skip
    go_enter Try.func15, Try.ntmps15
    go_wp2
    exact ret_two 2 3 (.string ⟨#[]⟩) (.int .i64 2) (by kernel_rfl) (by kernel_rfl) (by kernel_rfl) (by kernel_rfl) ⟨rfl, HB.out⟩
  by_cases h3 : r < 0
  · skip
    go_enter Try.func15, Try.ntmps15
    go_wp2
    exact ret_two 2 3 (.string ⟨#[]⟩) (.int .i64 2) (by kernel_rfl) (by kernel_rfl) (by kernel_rfl) (by kernel_rfl) ⟨rfl, HB.out⟩
  have h4 : 255 < r := by have := HM.out; unfold May at this; omega
  go_enter Try.func15, Try.ntmps15
  go_wp2
  exact ret_two 2 3 (.string ⟨#[]⟩) (.int .i64 2) (by kernel_rfl) (by kernel_rfl) (by kernel_rfl) (by kernel_rfl) ⟨rfl, HB.out⟩
theorem EncodeRst_ref (f r : Int) (w : World) :
    Calls Try.prog 15 #[.agg (rsv f r)] w fun e w' => e = .returned (encTV f r) ∧ Below w.heap.size w w' := by
  by_cases hm : May f r
  · obtain ⟨n, rfl⟩ := Int.eq_ofNat_of_zero_le hm.1.1
    obtain ⟨k, rfl⟩ := Int.eq_ofNat_of_zero_le hm.2.1
    exact encR_t n k hm w
  · exact encR_f f r hm w
end Go.Proofs.Ytbimdlcgjpeheaa
