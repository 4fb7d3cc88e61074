/-
  The document's own Decode of layer 9 (plaitref09), by its walk.
-/
import Derived.Test.YtpedbmnifjhaiaaCapRefE
import Derived.Test.YtpedbmnifjhaiaaCapDec
import Derived.Test.YtpedbmnifjhaiaaByteMem
import Derived.StillTailTactics
namespace Go.Proofs.Ytpedbmnifjhaiaa
open Go.ChangeShapes Go.WideShapes Go.ChangeAt Go.RowKit
set_option linter.unusedVariables false

/-- The form that the loop has found when it has looked at the first j. -/
def found (n j : Nat) : Int := match formOf n with | some f => if f < j then (f : Int) else -1 | none => -1
theorem form_iff (n j : Nat) (hj : j < 5) : formOf n = some j ↔ n = Cap.size (j : Int) := by
  have hc : j = 0 ∨ j = 1 ∨ j = 2 ∨ j = 3 ∨ j = 4 := by omega
  constructor
  · intro h
    rcases formOf_cases n with ⟨z, e⟩ | ⟨z, e⟩ | ⟨z, e⟩ | ⟨z, e⟩ | ⟨z, e⟩ | ⟨z, e⟩ <;> rw [e] at h <;> cases h <;> exact z
  · intro h
    subst h
    rcases hc with rfl | rfl | rfl | rfl | rfl <;> rfl
theorem found_0 (n : Nat) : found n 0 = -1 := by unfold found; cases formOf n <;> simp
theorem found_hit (n j : Nat) (hj : j < 5) (h : n = Cap.size (j : Int)) : found n (j + 1) = (j : Int) := by
  unfold found
  rw [(form_iff n j hj).2 h]
  simp
theorem found_miss (n j : Nat) (hj : j < 5) (h : n ≠ Cap.size (j : Int)) : found n (j + 1) = found n j := by
  unfold found
  cases e : formOf n with
  | none => rfl
  | some f =>
    have : f ≠ j := fun q => h ((form_iff n j hj).1 (by rw [e, q]))
    simp only []
    by_cases hf : f < j
    · rw [if_pos hf, if_pos (by omega)]
    · rw [if_neg hf, if_neg (by omega)]
theorem byte_32 : ∀ c : Fin (2 ^ 8), ((IntKind.u8.wrap ((c.val : Int) / 32)).tmod 2 == 1) = decide (c.val / 32 % 2 = 1) := by decide +kernel
theorem Num_s (s : ByteArray) (w : World) (hs : s.size ≤ 8) :
    Calls Try.prog 26 #[.string s] w fun e w' => e = .returned (.int .u64 ((num s 0 s.size : Nat) : Int)) ∧ w' = w := (Num_ref s w hs).mono fun _ _ h => ⟨h.1, h.2.symm⟩
set_option maxHeartbeats 4000000 in
set_option maxRecDepth 100000 in
theorem DecodeR_any (s : ByteArray) (w : World) (hs : s.size ≤ 9223372036854775000) :
    Calls Try.prog 13 #[.string s] w fun e w' => e = .returned (decV s) ∧ Below w.heap.size w w' := by
  obtain ⟨V, hV⟩ : ∃ V, V = decV s := ⟨_, rfl⟩
  rw [← hV]
  have HV := Lib.hid hV
  clear hV
  have HZ := Lib.hid (Blk.new w 25 (capv Cap.zero))
  have HB := Lib.hid ((Below.refl _ w).alloc (Nat.le_refl _) (.cells (capv Cap.zero) 25))
  have HSE := Lib.hid (setRow_heap _ w.heap.size _ (capv Cap.zero) _ _ HZ.out)
  have HBE := Lib.hid (below_setRow HB.out (Nat.le_refl _) (capv Cap.zero))
  by_cases hs0 : s.size = 0
  · have hnil : s.toList = ([] : List UInt8) := by
      rw [ByteArray.toList_eq]
      have : s.data.toList.length = 0 := by rw [len_data]; exact hs0
      exact List.length_eq_zero_iff.1 this
    have HVZ := Lib.hid (show V = .tuple #[.agg (capv Cap.zero), .int .i64 4] by rw [HV.out, decV, dec, if_pos hs0])
    clear hs0
    go_enter Try.func13, Try.ntmps13
    go_wp2_with (refine wpList_store_row rfl 25 _ _ rfl w.heap.size (capv Cap.zero) rfl rfl 25 _ HZ.out cap_size rfl (cap_one _) ?_)
    exact bodyPost_ret (results_row_tmp rfl _ _ w.heap.size 25 (capv Cap.zero) (0, 0) _ rfl HSE.out Try.underlying25 rfl cap_size) rfl ⟨by rw [HVZ.out]; rfl, HBE.out⟩
  · have i0 : (0 : Int) < (s.size : Int) := by omega
    have h00 : 0 < s.size := by omega
    have hne : ¬ s.toList = ([] : List UInt8) := by
      rw [ByteArray.toList_eq]
      intro h
      have := congrArg List.length h
      rw [len_data] at this
      exact hs0 this
    replace hne : s.toList.isEmpty = false := by rw [List.isEmpty_eq_false_iff]; exact hne
    have hb0 := byteAt_get s 0 h00
    have hlt0 := s[0].toNat_lt
    have HS0 := Lib.hid hs0
    have HB0 := Lib.hid hb0
    clear hs0 hb0
    by_cases h16 : 16 ≤ s[0].toNat
    · have e1 : ((s[0].toNat : Int) / 16 % 256 != 0) = true := by rw [bne_iff_ne]; omega
      have HVZ := Lib.hid (show V = .tuple #[.agg (capv Cap.zero), .int .i64 7] by rw [HV.out, decV, dec, if_neg HS0.out, if_pos (by rw [HB0.out]; exact h16)])
      clear h16
      go_enter Try.func13, Try.ntmps13
      go_wp2_with (refine wpList_store_row rfl 25 _ _ rfl w.heap.size (capv Cap.zero) rfl rfl 25 _ HZ.out cap_size rfl (cap_one _) ?_)
      exact bodyPost_ret (results_row_tmp rfl _ _ w.heap.size 25 (capv Cap.zero) (0, 0) _ rfl HSE.out Try.underlying25 rfl cap_size) rfl ⟨by rw [HVZ.out]; rfl, HBE.out⟩
    · have e1 : ((s[0].toNat : Int) / 16 % 256 != 0) = false := by rw [bne_eq_false_iff_eq]; omega
      have h15 : s[0].toNat < 16 := by omega
      clear h16
      go_enter Try.func13, Try.ntmps13
      go_wp2_with fail
      have e9 : ((s[0].toNat : Int) / 16 != 0) = false := by rw [bne_eq_false_iff_eq]; omega
      try rw [e9]
      have H15 := Lib.hid h15
      clear e1 e9 h15 hlt0
      obtain ⟨W0, hW0⟩ : ∃ W0, W0 = w.alloc (.cells (capv Cap.zero) 25) := ⟨_, rfl⟩
      rw [← hW0] at HZ HB HSE HBE
      rw [capz, ← hW0]
      clear hW0
      go_loopw [4, 5] (fun f i wr => ∃ j : Nat, j ≤ 5 ∧ i = .int .i64 (j : Int) ∧ f = .int .i64 (found s.size j) ∧ W0 = wr) (fun _ i _ => (5 - intOf i).toNat)
      case atStart => exact ⟨0, by omega, rfl, by rw [found_0], rfl⟩
      case round =>
        obtain ⟨j, hj, rfl, rfl, rfl⟩ := hrel
        obtain ⟨q, hq⟩ : ∃ q, q = found s.size j := ⟨_, rfl⟩
        rw [← hq]
        by_cases hlt : j < 5
        · have HLT := Lib.hid hlt
          have HQ := Lib.hid hq
          have HJ := Lib.hid hj
          have i5 : (j : Int) < 5 := by omega
          clear hq hlt hj
          go_wp2_with fail
          refine (SizeR_any j HLT.out _).mono ?_
          rintro e w2 ⟨rfl, rfl⟩
          obtain ⟨m, hm⟩ : ∃ m, m = Cap.size (j : Int) := ⟨_, rfl⟩
          rw [← hm]
          have HM := Lib.hid hm
          clear hm
          by_cases hn : s.size = m
          · have e2 : ((s.size : Int) == (m : Int)) = true := by rw [hn]; simp
            have HN := Lib.hid hn
            clear hn
            go_wp2_with fail
            go_roundw
            case rel => exact ⟨j + 1, by have := HLT.out; omega, by go_num, by rw [found_hit _ _ HLT.out (HN.out.trans HM.out)], by first | rfl | trivial⟩
            case measure => simp [intOf]; omega
          · have e2 : ((s.size : Int) == (m : Int)) = false := by rw [beq_eq_false_iff_ne]; omega
            have HN := Lib.hid hn
            clear hn
            go_wp2_with fail
            go_roundw
            case rel => exact ⟨j + 1, by have := HLT.out; omega, by go_num, by rw [found_miss _ _ HLT.out (fun h => HN.out (h.trans HM.out.symm)), ← HQ.out], by first | rfl | trivial⟩
            case measure => simp [intOf]; omega
        · obtain rfl : j = 5 := by omega
          cases e : formOf s.size with
          | none =>
            have hq' : q = -1 := by rw [hq, found, e]
            subst hq'
            have HVZ := Lib.hid (show V = .tuple #[.agg (capv Cap.zero), .int .i64 5] by rw [HV.out, decV, dec, if_neg HS0.out, if_neg (by rw [HB0.out]; have := H15.out; omega), e])
            clear e hq
            go_wp2_with (refine wpList_store_row rfl 25 _ _ rfl w.heap.size (capv Cap.zero) rfl rfl 25 _ HZ.out cap_size rfl (cap_one _) ?_)
            exact bodyPost_ret (results_row_tmp rfl _ _ w.heap.size 25 (capv Cap.zero) (0, 0) _ rfl HSE.out Try.underlying25 rfl cap_size) rfl ⟨by rw [HVZ.out]; rfl, HBE.out⟩
          | some fN =>
            have hz : s.size = Cap.size (fN : Int) ∧ fN < 5 := by
              rcases formOf_cases s.size with ⟨z, e'⟩ | ⟨z, e'⟩ | ⟨z, e'⟩ | ⟨z, e'⟩ | ⟨z, e'⟩ | ⟨z, e'⟩ <;> rw [e'] at e <;> cases e <;> exact ⟨z, by omega⟩
            obtain ⟨hzs, hf5⟩ := hz
            have hq' : q = (fN : Int) := by rw [hq, found, e]; simp only []; rw [if_pos hf5]
            subst hq'
            have h2 : 2 ≤ s.size := by rw [← (got_fields fN hf5 s hzs).2.2.2.2]; omega
            have h22 : s.size ≤ 22 := by rw [hzs]; exact size_le fN hf5
            have i1 : (1 : Int) < (s.size : Int) := by omega
            have h11 : 1 < s.size := by omega
            have hb1 := byteAt_get s 1 h11
            have hlt1 := s[1].toNat_lt
            have HB1 := Lib.hid hb1
            have HE := Lib.hid e
            have i6 : (0 : Int) ≤ (fN : Int) := by omega
            clear e hq hb1 hzs
            by_cases ho : s[1].toNat % 2 = 0
            · have e3 : ((s[1].toNat : Int) % 2 == 0) = true := by rw [beq_iff_eq]; omega
              have HVZ := Lib.hid (show V = .tuple #[.agg (capv Cap.zero), .int .i64 2] by rw [HV.out, decV, dec, if_neg HS0.out, if_neg (by rw [HB0.out]; have := H15.out; omega), HE.out]; simp only []; rw [if_pos (by rw [HB1.out]; exact ho)])
              clear ho
              go_wp2_with (refine wpList_store_row rfl 25 _ _ rfl w.heap.size (capv Cap.zero) rfl rfl 25 _ HZ.out cap_size rfl (cap_one _) ?_)
              exact bodyPost_ret (results_row_tmp rfl _ _ w.heap.size 25 (capv Cap.zero) (0, 0) _ rfl HSE.out Try.underlying25 rfl cap_size) rfl ⟨by rw [HVZ.out]; rfl, HBE.out⟩
            · have e3 : ((s[1].toNat : Int) % 2 == 0) = false := by rw [beq_eq_false_iff_ne]; omega
              have HVZ := Lib.hid (show V = .tuple #[.agg (capv (got fN s)), .int .i64 0] by rw [HV.out, decV, dec, if_neg HS0.out, if_neg (by rw [HB0.out]; have := H15.out; omega), HE.out]; simp only []; rw [if_neg (by rw [HB1.out]; exact ho)])
              obtain ⟨n, hn⟩ : ∃ n : Nat, n = 22 - s.size := ⟨_, rfl⟩
              have hni : (22 : Int) - (s.size : Int) = (n : Int) := by omega
              have hn20 : n ≤ 20 := by omega
              have hmk : ∀ W, (Instr.makeSlice 33 (.int .i64 (n : Int)) (.int .i64 (n : Int))).run Try.prog W = .ok (.slice (some ⟨W.heap.size, 0, none⟩) n n) (W.alloc (.cells (byv (List.replicate n 0)) 5)) := fun W => make_any W n _ rfl (by omega)
              have hcv := zeros_text W0 n n
              obtain ⟨Z, hZ⟩ : ∃ Z, Z = txt (List.replicate n 0) := ⟨_, rfl⟩
              rw [← hZ] at hcv
              have hzz : Z.size = n := by rw [hZ, txt_size, List.length_replicate]
              have HN := Lib.hid hn
              have HZT := Lib.hid hZ
              clear hn hZ ho
              go_wp2_with fail
              obtain ⟨A, hA⟩ : ∃ A, A = s ++ Z := ⟨_, rfl⟩
              rw [← hA]
              have hAs : A.size = 22 := by rw [hA, ByteArray.size_append, hzz, HN.out]; omega
              have hAn : ∀ k m, num A k m = num s k m := fun k m => by rw [hA, HZT.out]; exact num_zeros s n k m
              have HAN := Lib.hid hAn
              obtain ⟨W1, hW1⟩ : ∃ W1, W1 = W0.alloc (.cells (byv (List.replicate n 0)) 5) := ⟨_, rfl⟩
              have HZ1 := Lib.hid (show Blk W1.drew w.heap.size 25 (capv Cap.zero) by rw [hW1]; exact (HZ.out.alloc _).drew)
              have HBD := Lib.hid (show Below w.heap.size w W1.drew by rw [hW1]; exact (HB.out.alloc HB.out.size _).drew)
              rw [← hW1]
              clear hW1 hA hAn hmk hcv hzz e3 HSE HBE hni
              have k2 : (2 : Int) ≤ (A.size : Int) := by omega
              have k10 : (10 : Int) ≤ (A.size : Int) := by omega
              have k18 : (18 : Int) ≤ (A.size : Int) := by omega
              have k20 : (20 : Int) ≤ (A.size : Int) := by omega
              have k22 : (22 : Int) ≤ (A.size : Int) := by omega
              refine wp_region_still_tail 27 (by kernel_rfl) (by kernel_rfl) ?_
              simp only [List.take_succ_cons, List.take_zero, List.drop_succ_cons, List.drop_zero]
              change wpStill _ _ W1.drew _ _ _
              repeat (first | still_step | still_call (Num_s _ _ (by rw [ByteArray.size_extract]; omega)))
              refine wpStill_nil ?_
              change wpList _ _ _ _ _ W1.drew
              refine wpList_store_row rfl 25 _ _ rfl w.heap.size (capv (got fN s)) rfl ?_ 25 _ HZ1.out cap_size rfl (cap_one _) ?_
              · refine Eq.trans (b := Value.agg #[.int .i64 (fN : Int), .int .i64 (IntKind.i64.wrap (s[0].toNat : Int)), .bool (decide ((128 : Int) ≤ (s[1].toNat : Int))), .bool ((IntKind.u8.wrap ((s[1].toNat : Int) / 32)).tmod 2 == 1), .int .u64 (num (A.extract 2 10) 0 8 : Nat), .int .u64 (num (A.extract 10 18) 0 8 : Nat), .int .i64 (IntKind.i64.wrap (num (A.extract 18 20) 0 2 : Nat)), .int .u16 (IntKind.u16.wrap (num (A.extract 20 22) 0 2 : Nat))]) rfl ?_
                have n1 : num (A.extract 2 10) 0 8 = num s 2 8 := by rw [← HAN.out 2 8]; exact num_extract A 2 8 (by omega)
                have n2 : num (A.extract 10 18) 0 8 = num s 10 8 := by rw [← HAN.out 10 8]; exact num_extract A 10 8 (by omega)
                have n3 : num (A.extract 18 20) 0 2 = num s 18 2 := by rw [← HAN.out 18 2]; exact num_extract A 18 2 (by omega)
                have n4 : num (A.extract 20 22) 0 2 = num s 20 2 := by rw [← HAN.out 20 2]; exact num_extract A 20 2 (by omega)
                have l3 := num_lt s 18 2
                have l4 := num_lt s 20 2
                have w3 : IntKind.i64.wrap ((num s 18 2 : Nat) : Int) = ((num s 18 2 : Nat) : Int) := IntWalk.i64_in _ (by omega)
                have w4 : IntKind.u16.wrap ((num s 20 2 : Nat) : Int) = ((num s 20 2 : Nat) : Int) := by rw [IntKind.wrap_u16]; omega
                have hq0 := s[0].toNat_lt
                have w0 : IntKind.i64.wrap (s[0].toNat : Int) = (byteAt s 0 : Int) := by rw [HB0.out]; exact IntWalk.i64_in _ (by omega)
                have b1 : decide ((128 : Int) ≤ (s[1].toNat : Int)) = decide (128 ≤ byteAt s 1) := by rw [HB1.out]; by_cases h : 128 ≤ s[1].toNat <;> simp [h] <;> omega
                have b2 : ((IntKind.u8.wrap ((s[1].toNat : Int) / 32)).tmod 2 == 1) = decide (byteAt s 1 / 32 % 2 = 1) := by
                  rw [HB1.out]
                  have := byte_32 ⟨s[1].toNat, hlt1⟩
                  exact this
                rw [n1, n2, n3, n4, w3, w4, w0, b1, b2]
                rfl
              have HB3 := Lib.hid (below_setRow HBD.out (Nat.le_refl _) (capv (got fN s)))
              have HS3 := Lib.hid (setRow_heap _ w.heap.size _ (capv (got fN s)) _ _ HZ1.out)
              clear HZ1 HBD
              go_wp2_with fail
              exact bodyPost_ret (results_row_tmp rfl _ _ w.heap.size 25 (capv (got fN s)) (0, 0) _ rfl HS3.out Try.underlying25 rfl cap_size) rfl ⟨by rw [HVZ.out]; rfl, HB3.out⟩
end Go.Proofs.Ytpedbmnifjhaiaa
