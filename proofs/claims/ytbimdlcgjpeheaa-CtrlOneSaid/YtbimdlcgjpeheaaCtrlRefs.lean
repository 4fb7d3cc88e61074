/-
  The document's own answers of layer 13: Wrong, EncodePrio, EncodeFail, EncodeFast, and the four decoders, by their walks.
-/
import Derived.Test.YtbimdlcgjpeheaaCtrlEnc
import Derived.Test.YtbimdlcgjpeheaaCtrlDec
import Derived.Test.YtbimdlcgjpeheaaCurRefs
import Derived.Test.YtbimdlcgjpeheaaPureOps
namespace Go.Proofs.Ytbimdlcgjpeheaa
open Go.ChangeShapes Go.WideShapes Go.ChangeAt Go.RowKit
set_option linter.unusedVariables false

theorem ex_byte {ρ : Operand → Value} {o : Oper} {w : World} (t : TypeId) (x y : Operand) (ho : o.op = .index t x y) (s : ByteArray) (i c : Nat) (hx : ρ x = .string s) (hy : ρ y = .int .i64 (i : Int)) (ht : Try.prog.underlying t = some .string) (hi : i < s.size) (hc : byteAt s i = c) :
    (execOp ρ o).run Try.prog w = .ok (.value (.int .u8 (c : Int))) w := by
  have hg := byteAt_get s i hi
  rw [hc] at hg
  have q : s[i]? = some s[i] := by simp [hi]
  unfold execOp
  rw [ho]
  simp [hx, hy, Instr.index, run_underlying ht, asIntOf, q, hg]
theorem ex_rem_i64 {ρ : Operand → Value} {o : Oper} {w : World} (t u : TypeId) (x y : Operand) (ho : o.op = .binOp .rem t x y u) (a b c : Nat) (hx : ρ x = .int .i64 (a : Int)) (hy : ρ y = .int .i64 (b : Int)) (ht : Try.prog.underlying t = some (.int .i64)) (hb : b ≠ 0) (h : a % b = c) :
    (execOp ρ o).run Try.prog w = .ok (.value (.int .i64 (c : Int))) w := by
  subst h
  unfold execOp
  rw [ho]
  have e : (a : Int).tmod (b : Int) = (a : Int) % (b : Int) := Int.tmod_eq_emod_of_nonneg (by omega)
  simp [hx, hy, go_sem, hb, e]
theorem prioR_any (b : Bool) (w : World) :
    Calls Try.prog 11 #[.agg (prv b)] w fun e w' => e = .returned (.string (prioT b)) ∧ Below w.heap.size w w' := by
  have HB := Lib.hid ((Below.refl _ w).alloc (Nat.le_refl _) (.cells (prv b) 23))
  cases b
  all_goals
    go_enter Try.func11, Try.ntmps11
    go_wp2_with fail
    go_ret; exact ⟨rfl, HB.out⟩
theorem numFR_any (n : Nat) (hn : n ≤ 18446744073709551615) (w : World) :
    Calls Try.prog 12 #[.agg (nuv n)] w fun e w' => e = .returned (.string (numT 6 n)) ∧ Below w.heap.size w w' := by
  have HB := Lib.hid ((Below.refl _ w).alloc (Nat.le_refl _) (.cells (nuv n) 32))
  obtain ⟨t, ht⟩ : ∃ t, t = txt (be 8 n) := ⟨_, rfl⟩
  have HL := Lib.hid (fun W => Laid_t n 8 t W hn (by decide) (by decide) ht.symm)
  have hsz : t.size ≤ 8 := by rw [ht, be_len]; omega
  have hcat := fun W => run_string_add (P := Try.prog) W ⟨#[96, 0]⟩ t (by decide) (by omega)
  have HT := Lib.hid (show (⟨#[96, 0]⟩ : ByteArray) ++ t = numT 6 n by rw [ht]; exact txt_app [96, 0] (be 8 n))
  rw [HT.out] at hcat
  clear ht hn hsz
  go_enter Try.func12, Try.ntmps12
  go_wp2_with fail
  refine (HL.out _).mono ?_
  rintro e w1 ⟨rfl, b1⟩
  go_wp2_with fail
  go_ret; exact ⟨rfl, bel_in HB.out b1⟩
theorem numSR_any (n : Nat) (hn : n ≤ 18446744073709551615) (w : World) :
    Calls Try.prog 13 #[.agg (nuv n)] w fun e w' => e = .returned (.string (numT 7 n)) ∧ Below w.heap.size w w' := by
  have HB := Lib.hid ((Below.refl _ w).alloc (Nat.le_refl _) (.cells (nuv n) 35))
  obtain ⟨t, ht⟩ : ∃ t, t = txt (be 8 n) := ⟨_, rfl⟩
  have HL := Lib.hid (fun W => Laid_t n 8 t W hn (by decide) (by decide) ht.symm)
  have hsz : t.size ≤ 8 := by rw [ht, be_len]; omega
  have hcat := fun W => run_string_add (P := Try.prog) W ⟨#[112, 0]⟩ t (by decide) (by omega)
  have HT := Lib.hid (show (⟨#[112, 0]⟩ : ByteArray) ++ t = numT 7 n by rw [ht]; exact txt_app [112, 0] (be 8 n))
  rw [HT.out] at hcat
  clear ht hn hsz
  go_enter Try.func13, Try.ntmps13
  go_wp2_with fail
  refine (HL.out _).mono ?_
  rintro e w1 ⟨rfl, b1⟩
  go_wp2_with fail
  go_ret; exact ⟨rfl, bel_in HB.out b1⟩
theorem Wrong_any (k n : Nat) (s : ByteArray) (hs : s.size ≤ 9223372036854775807) (w : World) :
    Calls Try.prog 51 #[.string s, .int .i64 (k : Int), .int .i64 (n : Int)] w fun e w' => e = .returned (.int .i64 (wrong k n s)) ∧ Below w.heap.size w w' := by
  by_cases h0 : s.size = 0
  · have hd := empty_of s h0
    subst hd
    rw [wrong_0 k n _ rfl]
    go_enter Try.func51, Try.ntmps51
    go_wp2
    go_ret; exact ⟨rfl, Below.refl _ _⟩
  · have hne : s.toList.isEmpty = false := by
      rw [Bool.eq_false_iff]
      intro e
      rw [List.isEmpty_iff, ByteArray.toList_eq] at e
      have := congrArg List.length e
      simp at this
      exact h0 (by rw [this]; rfl)
    have hg := byteAt_get s 0 (by omega)
    have h0' : 0 < s.size := by omega
    obtain ⟨c, hc⟩ : ∃ c : Nat, c = s[0].toNat := ⟨_, rfl⟩
    rw [← hc] at hg
    have hb : c < 256 := by rw [hc]; exact s[0].toNat_lt
    have hcv := fun W => conv_u8_i64 (s[0].toNat : Int) c (by rw [hc]) (by omega) W
    have HW := Lib.hid (wrong_in k n s h0)
    have HW7 := Lib.hid (wrong_7 k n s h0)
    rw [hg] at HW HW7
    clear hg hc
    by_cases hk : c / 16 = k
    · rw [HW.out hk]
      have hq : (c : Int) / 16 = (k : Int) := by omega
      by_cases h1 : s.size < n
      · rw [show fit n s.size = 4 by unfold fit; rw [if_pos h1]]
        have h1' : (s.size : Int) < (n : Int) := by omega
        go_enter Try.func51, Try.ntmps51
        go_wp2
        go_ret; exact ⟨rfl, Below.refl _ _⟩
      · have h1' : ¬ (s.size : Int) < (n : Int) := by omega
        by_cases h2 : n < s.size
        · rw [show fit n s.size = 5 by unfold fit; rw [if_neg h1, if_pos h2]]
          have h2' : (n : Int) < (s.size : Int) := by omega
          go_enter Try.func51, Try.ntmps51
          go_wp2
          go_ret; exact ⟨rfl, Below.refl _ _⟩
        · rw [show fit n s.size = 0 by unfold fit; rw [if_neg h1, if_neg h2]]
          have h2' : ¬ (n : Int) < (s.size : Int) := by omega
          go_enter Try.func51, Try.ntmps51
          go_wp2
          go_ret; exact ⟨rfl, Below.refl _ _⟩
    · rw [HW7.out hk]
      have hq : ¬ (c : Int) / 16 = (k : Int) := by omega
      go_enter Try.func51, Try.ntmps51
      go_wp2
      go_ret; exact ⟨rfl, Below.refl _ _⟩
set_option maxHeartbeats 1000000 in
set_option maxRecDepth 100000 in
theorem refP_bad (s : ByteArray) (hs : s.size ≤ 9223372036854775807) (hz : wrong 5 1 s ≠ 0) (w : World) :
    Calls Try.prog 27 #[.string s] w fun e w' => e = .returned (decPV s) ∧ Below w.heap.size w w' := by
  obtain ⟨z, hzz⟩ : ∃ z, z = wrong 5 1 s := ⟨_, rfl⟩
  have HV := Lib.hid (decPV_no s z hzz.symm (by rw [hzz]; exact hz))
  have hz0 : ¬ z = 0 := by rw [hzz]; exact hz
  obtain ⟨r, hr⟩ : ∃ r, r = w.heap.size := ⟨_, rfl⟩
  obtain ⟨w0, hw0⟩ : ∃ w0, w0 = w.alloc (.cells (prv false) 23) := ⟨_, rfl⟩
  have HZ0 := Lib.hid (show Blk w0 r 23 (prv false) by rw [hw0, hr]; exact Blk.new _ _ _)
  have HB0 := Lib.hid (show Below w.heap.size w w0 by rw [hw0]; exact (Below.refl _ w).alloc (Nat.le_refl _) _)
  have HX := Lib.hid (fun W => answer (Wrong_any 5 1 s hs W) (congrArg (Value.int .i64) hzz.symm))
  have HR := Lib.hid hr
  have HW := Lib.hid hw0
  clear hs hzz hz hr hw0
  go_enter Try.func27, Try.ntmps27
  go_wp2_with fail
  rw [← HW.out, ← HR.out]
  refine (HX.out _).mono ?_
  rintro e w1 ⟨rfl, b1⟩
  have HZ1 := Lib.hid (HZ0.out.below b1 HZ0.out.lt)
  have HB1 := Lib.hid (HB0.out.trans (b1.mono HB0.out.size))
  clear b1
  go_wp2_with (refine wpList_store_row rfl 23 _ _ rfl r (prv false) rfl rfl 23 (prv false) ?_ pr_size rfl (pr_one _) ?_; exact HZ1.out)
  exact bodyPost_ret (results_row_tmp (p := 2) (t := 3) rfl _ _ r 23 (prv false) (0, 0) _ (by kernel_rfl) (setRow_heap _ _ _ _ _ _ HZ1.out) Try.underlying23 rfl pr_size) rfl ⟨by rw [HV.out]; rfl, below_setRow HB1.out (by rw [HR.out]; exact Nat.le_refl _) _⟩
set_option maxHeartbeats 1000000 in
set_option maxRecDepth 100000 in
theorem refP_ok (s : ByteArray) (hs : s.size ≤ 9223372036854775807) (hz : wrong 5 1 s = 0) (w : World) :
    Calls Try.prog 27 #[.string s] w fun e w' => e = .returned (decPV s) ∧ Below w.heap.size w w' := by
  obtain ⟨z, hzz⟩ : ∃ z, z = wrong 5 1 s := ⟨_, rfl⟩
  have hsz : s.size = 1 := ((wrong_iff 5 1 s (by decide)).1 hz).1
  have h0' : 0 < s.size := by omega
  obtain ⟨c, hc⟩ : ∃ c : Nat, c = s[0].toNat := ⟨_, rfl⟩
  have hg : byteAt s 0 = c := by rw [hc]; exact byteAt_get s 0 h0'
  obtain ⟨B, hB⟩ : ∃ B : Bool, B = (byteAt s 0 % 2 == 1) := ⟨_, rfl⟩
  have hcB : ((s[0].toNat : Int) % 2 == 1) = B := by
    rw [hB, hg, ← hc, Bool.eq_iff_iff, beq_iff_eq, beq_iff_eq]; omega
  have HV := Lib.hid (show decPV s = .tuple #[.agg (prv B), .int .i64 0] by rw [decPV_ok s hz, hB])
  have hz0 : z = 0 := by rw [hzz]; exact hz
  obtain ⟨r, hr⟩ : ∃ r, r = w.heap.size := ⟨_, rfl⟩
  obtain ⟨w0, hw0⟩ : ∃ w0, w0 = w.alloc (.cells (prv false) 23) := ⟨_, rfl⟩
  have HZ0 := Lib.hid (show Blk w0 r 23 (prv false) by rw [hw0, hr]; exact Blk.new _ _ _)
  have HB0 := Lib.hid (show Below w.heap.size w w0 by rw [hw0]; exact (Below.refl _ w).alloc (Nat.le_refl _) _)
  have HX := Lib.hid (fun W => answer (Wrong_any 5 1 s hs W) (congrArg (Value.int .i64) hzz.symm))
  have HR := Lib.hid hr
  have HW := Lib.hid hw0
  clear hs hzz hz hr hw0 hc hg hB
  go_enter Try.func27, Try.ntmps27
  go_wp2_with fail
  rw [← HW.out, ← HR.out]
  refine (HX.out _).mono ?_
  rintro e w1 ⟨rfl, b1⟩
  have HZ1 := Lib.hid (HZ0.out.below b1 HZ0.out.lt)
  have HB1 := Lib.hid (HB0.out.trans (b1.mono HB0.out.size))
  clear b1
  go_wp2_with (refine wpList_store_row rfl 23 _ _ rfl r (prv B) rfl rfl 23 (prv false) ?_ pr_size rfl (pr_one _) ?_; exact HZ1.out)
  exact bodyPost_ret (results_row_tmp (p := 2) (t := 3) rfl _ _ r 23 (prv B) (0, 0) _ (by kernel_rfl) (setRow_heap _ _ _ _ _ _ HZ1.out) Try.underlying23 rfl pr_size) rfl ⟨by rw [HV.out]; rfl, below_setRow HB1.out (by rw [HR.out]; exact Nat.le_refl _) _⟩
theorem refP_any (s : ByteArray) (hs : s.size ≤ 9223372036854775807) (w : World) :
    Calls Try.prog 27 #[.string s] w fun e w' => e = .returned (decPV s) ∧ Below w.heap.size w w' := by
  by_cases hz : wrong 5 1 s = 0
  · exact refP_ok s hs hz w
  · exact refP_bad s hs hz w
set_option maxHeartbeats 1000000 in
set_option maxRecDepth 100000 in
theorem refF_bad (s : ByteArray) (hs : s.size ≤ 9223372036854775807) (hz : wrong 6 10 s ≠ 0) (w : World) :
    Calls Try.prog 28 #[.string s] w fun e w' => e = .returned (decFV s) ∧ Below w.heap.size w w' := by
  obtain ⟨z, hzz⟩ : ∃ z, z = wrong 6 10 s := ⟨_, rfl⟩
  have HV := Lib.hid (decFV_no s z hzz.symm (by rw [hzz]; exact hz))
  have hz0 : ¬ z = 0 := by rw [hzz]; exact hz
  obtain ⟨r, hr⟩ : ∃ r, r = w.heap.size := ⟨_, rfl⟩
  obtain ⟨w0, hw0⟩ : ∃ w0, w0 = w.alloc (.cells #[.int .u64 0] 32) := ⟨_, rfl⟩
  have HZ0 := Lib.hid (show Blk w0 r 32 #[.int .u64 0] by rw [hw0, hr]; exact Blk.new _ _ _)
  have HB0 := Lib.hid (show Below w.heap.size w w0 by rw [hw0]; exact (Below.refl _ w).alloc (Nat.le_refl _) _)
  have HX := Lib.hid (fun W => answer (Wrong_any 6 10 s hs W) (congrArg (Value.int .i64) hzz.symm))
  have HR := Lib.hid hr
  have HW := Lib.hid hw0
  clear hs hzz hz hr hw0
  go_enter Try.func28, Try.ntmps28
  go_wp2_with fail
  rw [← HW.out, ← HR.out]
  refine (HX.out _).mono ?_
  rintro e w1 ⟨rfl, b1⟩
  have HZ1 := Lib.hid (HZ0.out.below b1 HZ0.out.lt)
  have HB1 := Lib.hid (HB0.out.trans (b1.mono HB0.out.size))
  clear b1
  go_wp2_with (refine wpList_store_row rfl 32 _ _ rfl r #[.int .u64 0] rfl rfl 32 #[.int .u64 0] ?_ fa_size rfl (nu_one _) ?_; exact HZ1.out)
  exact bodyPost_ret (results_row_tmp (p := 2) (t := 3) rfl _ _ r 32 #[.int .u64 0] (0, 0) _ (by kernel_rfl) (setRow_heap _ _ _ _ _ _ HZ1.out) Try.underlying32 rfl fa_size) rfl ⟨by rw [HV.out]; rfl, below_setRow HB1.out (by rw [HR.out]; exact Nat.le_refl _) _⟩
set_option maxHeartbeats 1000000 in
set_option maxRecDepth 100000 in
theorem refF_ok (s : ByteArray) (hs : s.size ≤ 9223372036854775807) (hz : wrong 6 10 s = 0) (w : World) :
    Calls Try.prog 28 #[.string s] w fun e w' => e = .returned (decFV s) ∧ Below w.heap.size w w' := by
  obtain ⟨z, hzz⟩ : ∃ z, z = wrong 6 10 s := ⟨_, rfl⟩
  have hsz : s.size = 10 := ((wrong_iff 6 10 s (by decide)).1 hz).1
  have h0' : 0 < s.size := by omega
  obtain ⟨N, hN⟩ : ∃ N, N = num s 2 8 := ⟨_, rfl⟩
  have HV := Lib.hid (show decFV s = .tuple #[.agg (nuv N), .int .i64 0] by rw [decFV_ok s hz, hN])
  obtain ⟨t, ht⟩ : ∃ t, t = s.extract 2 s.size := ⟨_, rfl⟩
  have HN := Lib.hid (fun W => Num_t t N W (by rw [ht, ByteArray.size_extract]; omega) (by rw [ht, hsz, num_cut s 2 10 8 rfl (by omega), hN]))
  have hsl : ∀ W, (Instr.sliceAt 9 (.string s) (some (.int .i64 2)) none none).run Try.prog W = .ok (.string t) W := by
    intro W
    have l2 : (2 : Int) ≤ (s.size : Int) := by omega
    simp [go_sem, l2, ht]
  have hz0 : z = 0 := by rw [hzz]; exact hz
  obtain ⟨r, hr⟩ : ∃ r, r = w.heap.size := ⟨_, rfl⟩
  obtain ⟨w0, hw0⟩ : ∃ w0, w0 = w.alloc (.cells #[.int .u64 0] 32) := ⟨_, rfl⟩
  have HZ0 := Lib.hid (show Blk w0 r 32 #[.int .u64 0] by rw [hw0, hr]; exact Blk.new _ _ _)
  have HB0 := Lib.hid (show Below w.heap.size w w0 by rw [hw0]; exact (Below.refl _ w).alloc (Nat.le_refl _) _)
  have HX := Lib.hid (fun W => answer (Wrong_any 6 10 s hs W) (congrArg (Value.int .i64) hzz.symm))
  have HR := Lib.hid hr
  have HW := Lib.hid hw0
  clear hs hzz hz hr hw0 hN ht
  go_enter Try.func28, Try.ntmps28
  go_wp2_with fail
  rw [← HW.out, ← HR.out]
  refine (HX.out _).mono ?_
  rintro e w1 ⟨rfl, b1⟩
  have HZ1 := Lib.hid (HZ0.out.below b1 HZ0.out.lt)
  have HB1 := Lib.hid (HB0.out.trans (b1.mono HB0.out.size))
  clear b1
  go_wp2_with fail
  refine (HN.out _).mono ?_
  rintro e w2 ⟨rfl, rfl⟩
  go_wp2_with (refine wpList_store_row rfl 32 _ _ rfl r (nuv N) rfl rfl 32 #[.int .u64 0] ?_ fa_size rfl (nu_one _) ?_; exact HZ1.out)
  exact bodyPost_ret (results_row_tmp (p := 2) (t := 3) rfl _ _ r 32 (nuv N) (0, 0) _ (by kernel_rfl) (setRow_heap _ _ _ _ _ _ HZ1.out) Try.underlying32 rfl fa_size) rfl ⟨by rw [HV.out]; rfl, below_setRow HB1.out (by rw [HR.out]; exact Nat.le_refl _) _⟩
theorem refF_any (s : ByteArray) (hs : s.size ≤ 9223372036854775807) (w : World) :
    Calls Try.prog 28 #[.string s] w fun e w' => e = .returned (decFV s) ∧ Below w.heap.size w w' := by
  by_cases hz : wrong 6 10 s = 0
  · exact refF_ok s hs hz w
  · exact refF_bad s hs hz w
set_option maxHeartbeats 1000000 in
set_option maxRecDepth 100000 in
theorem refS_bad (s : ByteArray) (hs : s.size ≤ 9223372036854775807) (hz : wrong 7 10 s ≠ 0) (w : World) :
    Calls Try.prog 29 #[.string s] w fun e w' => e = .returned (decSV s) ∧ Below w.heap.size w w' := by
  obtain ⟨z, hzz⟩ : ∃ z, z = wrong 7 10 s := ⟨_, rfl⟩
  have HV := Lib.hid (decSV_no s z hzz.symm (by rw [hzz]; exact hz))
  have hz0 : ¬ z = 0 := by rw [hzz]; exact hz
  obtain ⟨r, hr⟩ : ∃ r, r = w.heap.size := ⟨_, rfl⟩
  obtain ⟨w0, hw0⟩ : ∃ w0, w0 = w.alloc (.cells #[.int .u64 0] 35) := ⟨_, rfl⟩
  have HZ0 := Lib.hid (show Blk w0 r 35 #[.int .u64 0] by rw [hw0, hr]; exact Blk.new _ _ _)
  have HB0 := Lib.hid (show Below w.heap.size w w0 by rw [hw0]; exact (Below.refl _ w).alloc (Nat.le_refl _) _)
  have HX := Lib.hid (fun W => answer (Wrong_any 7 10 s hs W) (congrArg (Value.int .i64) hzz.symm))
  have HR := Lib.hid hr
  have HW := Lib.hid hw0
  clear hs hzz hz hr hw0
  go_enter Try.func29, Try.ntmps29
  go_wp2_with fail
  rw [← HW.out, ← HR.out]
  refine (HX.out _).mono ?_
  rintro e w1 ⟨rfl, b1⟩
  have HZ1 := Lib.hid (HZ0.out.below b1 HZ0.out.lt)
  have HB1 := Lib.hid (HB0.out.trans (b1.mono HB0.out.size))
  clear b1
  go_wp2_with (refine wpList_store_row rfl 35 _ _ rfl r #[.int .u64 0] rfl rfl 35 #[.int .u64 0] ?_ fs_size rfl (nu_one _) ?_; exact HZ1.out)
  exact bodyPost_ret (results_row_tmp (p := 2) (t := 3) rfl _ _ r 35 #[.int .u64 0] (0, 0) _ (by kernel_rfl) (setRow_heap _ _ _ _ _ _ HZ1.out) Try.underlying35 rfl fs_size) rfl ⟨by rw [HV.out]; rfl, below_setRow HB1.out (by rw [HR.out]; exact Nat.le_refl _) _⟩
set_option maxHeartbeats 1000000 in
set_option maxRecDepth 100000 in
theorem refS_ok (s : ByteArray) (hs : s.size ≤ 9223372036854775807) (hz : wrong 7 10 s = 0) (w : World) :
    Calls Try.prog 29 #[.string s] w fun e w' => e = .returned (decSV s) ∧ Below w.heap.size w w' := by
  obtain ⟨z, hzz⟩ : ∃ z, z = wrong 7 10 s := ⟨_, rfl⟩
  have hsz : s.size = 10 := ((wrong_iff 7 10 s (by decide)).1 hz).1
  have h0' : 0 < s.size := by omega
  obtain ⟨N, hN⟩ : ∃ N, N = num s 2 8 := ⟨_, rfl⟩
  have HV := Lib.hid (show decSV s = .tuple #[.agg (nuv N), .int .i64 0] by rw [decSV_ok s hz, hN])
  obtain ⟨t, ht⟩ : ∃ t, t = s.extract 2 s.size := ⟨_, rfl⟩
  have HN := Lib.hid (fun W => Num_t t N W (by rw [ht, ByteArray.size_extract]; omega) (by rw [ht, hsz, num_cut s 2 10 8 rfl (by omega), hN]))
  have hsl : ∀ W, (Instr.sliceAt 9 (.string s) (some (.int .i64 2)) none none).run Try.prog W = .ok (.string t) W := by
    intro W
    have l2 : (2 : Int) ≤ (s.size : Int) := by omega
    simp [go_sem, l2, ht]
  have hz0 : z = 0 := by rw [hzz]; exact hz
  obtain ⟨r, hr⟩ : ∃ r, r = w.heap.size := ⟨_, rfl⟩
  obtain ⟨w0, hw0⟩ : ∃ w0, w0 = w.alloc (.cells #[.int .u64 0] 35) := ⟨_, rfl⟩
  have HZ0 := Lib.hid (show Blk w0 r 35 #[.int .u64 0] by rw [hw0, hr]; exact Blk.new _ _ _)
  have HB0 := Lib.hid (show Below w.heap.size w w0 by rw [hw0]; exact (Below.refl _ w).alloc (Nat.le_refl _) _)
  have HX := Lib.hid (fun W => answer (Wrong_any 7 10 s hs W) (congrArg (Value.int .i64) hzz.symm))
  have HR := Lib.hid hr
  have HW := Lib.hid hw0
  clear hs hzz hz hr hw0 hN ht
  go_enter Try.func29, Try.ntmps29
  go_wp2_with fail
  rw [← HW.out, ← HR.out]
  refine (HX.out _).mono ?_
  rintro e w1 ⟨rfl, b1⟩
  have HZ1 := Lib.hid (HZ0.out.below b1 HZ0.out.lt)
  have HB1 := Lib.hid (HB0.out.trans (b1.mono HB0.out.size))
  clear b1
  go_wp2_with fail
  refine (HN.out _).mono ?_
  rintro e w2 ⟨rfl, rfl⟩
  go_wp2_with (refine wpList_store_row rfl 35 _ _ rfl r (nuv N) rfl rfl 35 #[.int .u64 0] ?_ fs_size rfl (nu_one _) ?_; exact HZ1.out)
  exact bodyPost_ret (results_row_tmp (p := 2) (t := 3) rfl _ _ r 35 (nuv N) (0, 0) _ (by kernel_rfl) (setRow_heap _ _ _ _ _ _ HZ1.out) Try.underlying35 rfl fs_size) rfl ⟨by rw [HV.out]; rfl, below_setRow HB1.out (by rw [HR.out]; exact Nat.le_refl _) _⟩
theorem refS_any (s : ByteArray) (hs : s.size ≤ 9223372036854775807) (w : World) :
    Calls Try.prog 29 #[.string s] w fun e w' => e = .returned (decSV s) ∧ Below w.heap.size w w' := by
  by_cases hz : wrong 7 10 s = 0
  · exact refS_ok s hs hz w
  · exact refS_bad s hs hz w
set_option maxHeartbeats 1000000 in
set_option maxRecDepth 100000 in
theorem refR_bad (s : ByteArray) (hs : s.size ≤ 9223372036854775807) (hz : wrong 8 2 s ≠ 0) (w : World) :
    Calls Try.prog 30 #[.string s] w fun e w' => e = .returned (decRV s) ∧ Below w.heap.size w w' := by
  obtain ⟨z, hzz⟩ : ∃ z, z = wrong 8 2 s := ⟨_, rfl⟩
  have HV := Lib.hid (decRV_no s z hzz.symm (by rw [hzz]; exact hz))
  have hz0 : ¬ z = 0 := by rw [hzz]; exact hz
  obtain ⟨r, hr⟩ : ∃ r, r = w.heap.size := ⟨_, rfl⟩
  obtain ⟨w0, hw0⟩ : ∃ w0, w0 = w.alloc (.cells (rsv 0 0) 26) := ⟨_, rfl⟩
  have HZ0 := Lib.hid (show Blk w0 r 26 (rsv 0 0) by rw [hw0, hr]; exact Blk.new _ _ _)
  have HB0 := Lib.hid (show Below w.heap.size w w0 by rw [hw0]; exact (Below.refl _ w).alloc (Nat.le_refl _) _)
  have HX := Lib.hid (fun W => answer (Wrong_any 8 2 s hs W) (congrArg (Value.int .i64) hzz.symm))
  have HR := Lib.hid hr
  have HW := Lib.hid hw0
  clear hs hzz hz hr hw0
  go_enter Try.func30, Try.ntmps30
  go_wp2_with fail
  rw [← HW.out, ← HR.out]
  refine (HX.out _).mono ?_
  rintro e w1 ⟨rfl, b1⟩
  have HZ1 := Lib.hid (HZ0.out.below b1 HZ0.out.lt)
  have HB1 := Lib.hid (HB0.out.trans (b1.mono HB0.out.size))
  clear b1
  go_wp2_with (refine wpList_store_row rfl 26 _ _ rfl r (rsv 0 0) rfl rfl 26 (rsv 0 0) ?_ rs_size rfl (rs_one _ _) ?_; exact HZ1.out)
  exact bodyPost_ret (results_row_tmp (p := 2) (t := 3) rfl _ _ r 26 (rsv 0 0) (0, 0) _ (by kernel_rfl) (setRow_heap _ _ _ _ _ _ HZ1.out) Try.underlying26 rfl rs_size) rfl ⟨by rw [HV.out]; rfl, below_setRow HB1.out (by rw [HR.out]; exact Nat.le_refl _) _⟩
set_option maxHeartbeats 1000000 in
set_option maxRecDepth 100000 in
theorem refR_ok (s : ByteArray) (hs : s.size ≤ 9223372036854775807) (hz : wrong 8 2 s = 0) (w : World) :
    Calls Try.prog 30 #[.string s] w fun e w' => e = .returned (decRV s) ∧ Below w.heap.size w w' := by
  obtain ⟨z, hzz⟩ : ∃ z, z = wrong 8 2 s := ⟨_, rfl⟩
  have hsz : s.size = 2 := ((wrong_iff 8 2 s (by decide)).1 hz).1
  have h0' : 0 < s.size := by omega
  obtain ⟨F, hF⟩ : ∃ F, F = byteAt s 0 % 16 := ⟨_, rfl⟩
  obtain ⟨R, hR⟩ : ∃ R, R = byteAt s 1 := ⟨_, rfl⟩
  have HV := Lib.hid (show decRV s = .tuple #[.agg (rsv (F : Int) (R : Int)), .int .i64 0] by rw [decRV_ok s hz, hF, hR])
  obtain ⟨C, hC⟩ : ∃ C, C = byteAt s 0 := ⟨_, rfl⟩
  have HI := Lib.hid (show 0 < s.size ∧ byteAt s 0 = C ∧ C ≤ 255 ∧ C % 16 = F ∧ 1 < s.size ∧ byteAt s 1 = R ∧ R ≤ 255 from ⟨h0', hC.symm, by rw [hC]; have := byteAt_lt s 0; omega, by rw [hC, hF], by omega, hR.symm, by rw [hR]; have := byteAt_lt s 1; omega⟩)
  have hz0 : z = 0 := by rw [hzz]; exact hz
  obtain ⟨r, hr⟩ : ∃ r, r = w.heap.size := ⟨_, rfl⟩
  obtain ⟨w0, hw0⟩ : ∃ w0, w0 = w.alloc (.cells (rsv 0 0) 26) := ⟨_, rfl⟩
  have HZ0 := Lib.hid (show Blk w0 r 26 (rsv 0 0) by rw [hw0, hr]; exact Blk.new _ _ _)
  have HB0 := Lib.hid (show Below w.heap.size w w0 by rw [hw0]; exact (Below.refl _ w).alloc (Nat.le_refl _) _)
  have HX := Lib.hid (fun W => answer (Wrong_any 8 2 s hs W) (congrArg (Value.int .i64) hzz.symm))
  have HR := Lib.hid hr
  have HW := Lib.hid hw0
  clear hs hzz hz hr hw0 hF hR hC
  go_enter Try.func30, Try.ntmps30
  go_wp2_with fail
  rw [← HW.out, ← HR.out]
  refine (HX.out _).mono ?_
  rintro e w1 ⟨rfl, b1⟩
  have HZ1 := Lib.hid (HZ0.out.below b1 HZ0.out.lt)
  have HB1 := Lib.hid (HB0.out.trans (b1.mono HB0.out.size))
  clear b1
  go_upto_region 4 with fail
  have B0 : Below w1.heap.size w1 w1.drew := (Below.refl _ w1).drew
  refine walk_start 8 (fun W => Below w1.heap.size w1 W) (by kernel_rfl) (n := 10) rfl ?_
  obtain ⟨W0, hW0⟩ : ∃ W0, W0 = w1.drew := ⟨_, rfl⟩
  rw [← hW0] at B0 ⊢
  clear hW0
  refine walk_pure 0 (.string s) rfl (by kernel_rfl) (by kernel_rfl) (by kernel_rfl) (by decide) (by kernel_rfl) (.inr B0) (fun _ => by kernel_rfl) ?_
  refine walk_pure 1 (.int .u8 (C : Int)) rfl (by kernel_rfl) (by kernel_rfl) (by kernel_rfl) (by decide) (by kernel_rfl) (.inr B0) (fun _ => ex_byte 9 (.tmp 11) (.const (.int .i64 0)) (by kernel_rfl) s 0 C (by kernel_rfl) (by kernel_rfl) (by kernel_rfl) HI.out.1 HI.out.2.1) ?_
  refine walk_pure 2 (.int .i64 (C : Int)) rfl (by kernel_rfl) (by kernel_rfl) (by kernel_rfl) (by decide) (by kernel_rfl) (.inr B0) (fun W => ex_convert_to (v := .int .u8 (C : Int)) 5 3 (.tmp 12) (by kernel_rfl) (by kernel_rfl) (conv_u8_i64 (C : Int) C rfl HI.out.2.2.1 W)) ?_
  refine walk_pure 3 (.int .i64 (F : Int)) rfl (by kernel_rfl) (by kernel_rfl) (by kernel_rfl) (by decide) (by kernel_rfl) (.inr B0) (fun _ => ex_rem_i64 3 3 (.tmp 13) (.const (.int .i64 16)) (by kernel_rfl) C 16 F (by kernel_rfl) (by kernel_rfl) (by kernel_rfl) (by decide) HI.out.2.2.2.1) ?_
  refine walk_pure 4 (.string s) rfl (by kernel_rfl) (by kernel_rfl) (by kernel_rfl) (by decide) (by kernel_rfl) (.inr B0) (fun _ => by kernel_rfl) ?_
  refine walk_pure 5 (.int .u8 (R : Int)) rfl (by kernel_rfl) (by kernel_rfl) (by kernel_rfl) (by decide) (by kernel_rfl) (.inr B0) (fun _ => ex_byte 9 (.tmp 15) (.const (.int .i64 1)) (by kernel_rfl) s 1 R (by kernel_rfl) (by kernel_rfl) (by kernel_rfl) HI.out.2.2.2.2.1 HI.out.2.2.2.2.2.1) ?_
  refine walk_pure 6 (.int .i64 (R : Int)) rfl (by kernel_rfl) (by kernel_rfl) (by kernel_rfl) (by decide) (by kernel_rfl) (.inr B0) (fun W => ex_convert_to (v := .int .u8 (R : Int)) 5 3 (.tmp 16) (by kernel_rfl) (by kernel_rfl) (conv_u8_i64 (R : Int) R rfl HI.out.2.2.2.2.2.2 W)) ?_
  refine walk_pure 7 (.agg (rsv (F : Int) (R : Int))) rfl (by kernel_rfl) (by kernel_rfl) (by kernel_rfl) (by decide) (by kernel_rfl) (.inr B0) (fun _ => by kernel_rfl) ?_
  have HZ2 := Lib.hid (HZ1.out.below B0 HZ1.out.lt)
  have HB2 := Lib.hid (HB1.out.trans (B0.mono HB1.out.size))
  refine walk_one 8 (by kernel_rfl) (do_last (w' := W0.setRow r (rsv (F : Int) (R : Int))) 8 rfl (by kernel_rfl) (ex_store_row 26 (.tmp 2) (.tmp 18) (by kernel_rfl) r (rsv (F : Int) (R : Int)) (by kernel_rfl) (by kernel_rfl) 26 (rsv 0 0) HZ2.out rs_size rfl (rs_one _ _)) (by kernel_rfl) ?_)
  refine walk_pure 9 (.int .i64 0) rfl (by kernel_rfl) (by kernel_rfl) (by kernel_rfl) (by decide) (by kernel_rfl) (.inl (by kernel_rfl)) (fun _ => by kernel_rfl) ?_
  refine walk_end_at ⟨#[.string s, undef, .pointer (some ⟨r, 0, none⟩), .int .i64 0, .int .i64 0, .string s, .int .i64 0, .int .i64 0, .bool false, undef, undef, .string s, .int .u8 (C : Int), .int .i64 (C : Int), .int .i64 (F : Int), .string s, .int .u8 (R : Int), .int .i64 (R : Int), .agg (rsv (F : Int) (R : Int))], []⟩ (by kernel_rfl) (by kernel_rfl) ?_
  go_wp2_with fail
  exact bodyPost_ret (results_row_tmp (p := 2) (t := 3) rfl _ _ r 26 (rsv (F : Int) (R : Int)) (0, 0) _ (by kernel_rfl) (setRow_heap _ _ _ _ _ _ HZ2.out) Try.underlying26 rfl rs_size) rfl ⟨by rw [HV.out]; rfl, below_setRow HB2.out (by rw [HR.out]; exact Nat.le_refl _) _⟩
theorem refR_any (s : ByteArray) (hs : s.size ≤ 9223372036854775807) (w : World) :
    Calls Try.prog 30 #[.string s] w fun e w' => e = .returned (decRV s) ∧ Below w.heap.size w w' := by
  by_cases hz : wrong 8 2 s = 0
  · exact refR_ok s hs hz w
  · exact refR_bad s hs hz w
end Go.Proofs.Ytbimdlcgjpeheaa
