/-
  The four small options in memory; what the encoders of package ctrl, and decodeNumber, answer, each by its walk.
-/
import Derived.Test.YtbimdlcgjpeheaaCtrlPlain
import Derived.Test.YtbimdlcgjpeheaaCurAny
import Derived.Test.YtbimdlcgjpeheaaCurPuts
import Derived.Test.YtbimdlcgjpeheaaStepOps
import Derived.Laws.Tables
import Derived.Laws.Rows
namespace Go.Proofs.Ytbimdlcgjpeheaa
open Go.ChangeShapes Go.WideShapes Go.ChangeAt Go.RowKit
set_option linter.unusedVariables false

/-- The structs' cells. -/
abbrev prv (b : Bool) : Array Value := #[.bool b]
abbrev nuv (n : Nat) : Array Value := #[.int .u64 (n : Int)]
abbrev rsv (f r : Int) : Array Value := #[.int .i64 f, .int .i64 r]
theorem pr_size : (Try.prog.info? 23).map (·.size) = some 1 := by kernel_rfl
theorem fa_size : (Try.prog.info? 32).map (·.size) = some 1 := by kernel_rfl
theorem fs_size : (Try.prog.info? 35).map (·.size) = some 1 := by kernel_rfl
theorem rs_size : (Try.prog.info? 26).map (·.size) = some 2 := by kernel_rfl

/-! ### Two of them compared -/
set_option maxRecDepth 100000 in
theorem pr_equal (x y B : Bool) (h : (x == y) = B) (w : World) : (Op.equalIn 10000 23 (.agg (prv x)) (.agg (prv y))).run Try.prog w = .ok B w := by
  subst h
  rw [show (10000 : Nat) = 9999 + 1 from rfl, run_equalIn_agg (P := Try.prog) w 9999 23 _ _ (by kernel_rfl) (by kernel_rfl)]
  rw [show (9999 : Nat) = 9998 + 1 from rfl]
  simp only [Program.fieldsOf, Try.underlying23, Op.eqFields]
  simp [go_sem]
  cases x <;> cases y <;> rfl
set_option maxRecDepth 100000 in
theorem fa_equal (x y : Nat) (B : Bool) (h : decide (x = y) = B) (w : World) : (Op.equalIn 10000 32 (.agg (nuv x)) (.agg (nuv y))).run Try.prog w = .ok B w := by
  subst h
  rw [show (10000 : Nat) = 9999 + 1 from rfl, run_equalIn_agg (P := Try.prog) w 9999 32 _ _ (by kernel_rfl) (by kernel_rfl)]
  rw [show (9999 : Nat) = 9998 + 1 from rfl]
  simp only [Program.fieldsOf, Try.underlying32, Op.eqFields]
  simp [go_sem]
  by_cases h : x = y
  · simp [h]
  · simp [h, show ¬ (x : Int) = (y : Int) by omega]
set_option maxRecDepth 100000 in
theorem fs_equal (x y : Nat) (B : Bool) (h : decide (x = y) = B) (w : World) : (Op.equalIn 10000 35 (.agg (nuv x)) (.agg (nuv y))).run Try.prog w = .ok B w := by
  subst h
  rw [show (10000 : Nat) = 9999 + 1 from rfl, run_equalIn_agg (P := Try.prog) w 9999 35 _ _ (by kernel_rfl) (by kernel_rfl)]
  rw [show (9999 : Nat) = 9998 + 1 from rfl]
  simp only [Program.fieldsOf, Try.underlying35, Op.eqFields]
  simp [go_sem]
  by_cases h : x = y
  · simp [h]
  · simp [h, show ¬ (x : Int) = (y : Int) by omega]
set_option maxRecDepth 100000 in
theorem rs_equal (f r g q : Int) (B : Bool) (h : decide (f = g ∧ r = q) = B) (w : World) : (Op.equalIn 10000 26 (.agg (rsv f r)) (.agg (rsv g q))).run Try.prog w = .ok B w := by
  subst h
  rw [show (10000 : Nat) = 9999 + 1 from rfl, run_equalIn_agg (P := Try.prog) w 9999 26 _ _ (by kernel_rfl) (by kernel_rfl)]
  rw [show (9999 : Nat) = 9998 + 1 from rfl]
  simp only [Program.fieldsOf, Try.underlying26, Op.eqFields]
  simp [go_sem]
  by_cases h : f = g <;> by_cases h' : r = q <;> simp [h, h']

/-! ### What is laid -/
/-- What the encoders answer. -/
def encPV (b : Bool) : Value := .tuple #[.string (prioT b), .int .i64 0]
def encNV (k n : Nat) : Value := .tuple #[.string (numT k n), .int .i64 0]
def encTV (f r : Int) : Value := .tuple #[.string (encT f r).1, .int .i64 (encT f r).2]
theorem ret_two {P : Program} {fn : Func} {R : Ending → World → Prop} {a : Act} {w : World} (t u : Tmp) (v z : Value) (hf : fn.results = #[.tmp t, .tmp u]) (ht : a.tmps.getD t undef = v) (hu : a.tmps.getD u undef = z) (hd : a.defers = []) (hR : R (.returned (.tuple #[v, z])) w) : bodyPost P fn R .ret a w :=
  bodyPost_ret (by rw [results_tmp2 hf, ht, hu]) hd hR
theorem EncodePrio_any (b : Bool) (w : World) :
    Calls Try.prog 8 #[.agg (prv b)] w fun e w' => e = .returned (encPV b) ∧ Below w.heap.size w w' := by
  have HB := Lib.hid ((Below.refl _ w).alloc (Nat.le_refl _) (.cells (prv b) 23))
  cases b
  · go_enter Try.func8, Try.ntmps8
    go_wp2_with fail
    refine (answer (Put8_any ⟨#[]⟩ 80 _ (by decide) (by decide)) (v' := .string (prioT false)) (by kernel_rfl)).mono ?_
    rintro e w1 ⟨rfl, b1⟩
    go_wp2_with fail
    exact ret_two 2 3 (.string (prioT false)) (.int .i64 0) (by kernel_rfl) (by kernel_rfl) (by kernel_rfl) (by kernel_rfl) ⟨rfl, bel_in HB.out b1⟩
  · go_enter Try.func8, Try.ntmps8
    go_wp2_with fail
    refine (answer (Put8_any ⟨#[]⟩ 81 _ (by decide) (by decide)) (v' := .string (prioT true)) (by kernel_rfl)).mono ?_
    rintro e w1 ⟨rfl, b1⟩
    go_wp2_with fail
    exact ret_two 2 3 (.string (prioT true)) (.int .i64 0) (by kernel_rfl) (by kernel_rfl) (by kernel_rfl) (by kernel_rfl) ⟨rfl, bel_in HB.out b1⟩
theorem one_byte (n : Nat) : (⟨#[]⟩ : ByteArray) ++ ⟨(be 1 n).toArray⟩ = txt [UInt8.ofNat n] := by rw [none_and]; apply ByteArray.ext; simp [be, txt]
theorem encodeNumber_any (k n : Nat) (hk : k < 16) (hn : n ≤ 18446744073709551615) (w : World) :
    Calls Try.prog 24 #[.int .u8 (k : Int), .int .u64 (n : Int)] w fun e w' => e = .returned (.string (numT k n)) ∧ Below w.heap.size w w' := by
  obtain ⟨m, hm⟩ : ∃ m, m = k * 16 := ⟨_, rfl⟩
  have hc : (k : Int) * 16 % 256 = (m : Int) := by omega
  have HK := Lib.hid (show m ≤ 255 by omega)
  have HN := Lib.hid hn
  obtain ⟨A, hA⟩ : ∃ A, A = txt [UInt8.ofNat m] := ⟨_, rfl⟩
  obtain ⟨C, hC⟩ : ∃ C, C = txt [UInt8.ofNat m, 0] := ⟨_, rfl⟩
  have HA := Lib.hid (show (⟨#[]⟩ : ByteArray) ++ ⟨(be 1 m).toArray⟩ = A by rw [hA]; exact one_byte _)
  have HC := Lib.hid (show A ++ ⟨(be 1 0).toArray⟩ = C by rw [hA, hC]; exact txt_app [UInt8.ofNat m] [0])
  have HT := Lib.hid (show C ++ ⟨(be 8 n).toArray⟩ = numT k n by rw [hC, numT, ← hm]; exact txt_app [UInt8.ofNat m, 0] (be 8 n))
  have HS := Lib.hid (show A.size ≤ 10 ∧ C.size ≤ 10 by rw [hA, hC, txt_size, txt_size]; exact ⟨by simp, by simp⟩)
  clear hA hC hk hn hm
  go_enter Try.func24, Try.ntmps24
  go_wp2_with fail
  refine (answer (Put8_any ⟨#[]⟩ m _ (by decide) HK.out) (congrArg Value.string HA.out)).mono ?_
  rintro e w1 ⟨rfl, b1⟩
  have HB1 := Lib.hid b1
  clear b1
  go_wp2_with fail
  refine (answer (Put8_any A 0 _ (by have := HS.out; omega) (by decide)) (congrArg Value.string HC.out)).mono ?_
  rintro e w2 ⟨rfl, b2⟩
  have HB2 := Lib.hid (bel_in HB1.out b2)
  clear b2
  go_wp2_with fail
  refine (answer (Put64_any C n _ (by have := HS.out; omega) HN.out) (congrArg Value.string HT.out)).mono ?_
  rintro e w3 ⟨rfl, b3⟩
  have HB3 := Lib.hid (bel_in HB2.out b3)
  clear b3
  go_wp2_with fail
  go_ret; exact ⟨rfl, HB3.out⟩
theorem EncodeFail_any (n : Nat) (hn : n ≤ 18446744073709551615) (w : World) :
    Calls Try.prog 9 #[.agg (nuv n)] w fun e w' => e = .returned (encNV 6 n) ∧ Below w.heap.size w w' := by
  have HB := Lib.hid ((Below.refl _ w).alloc (Nat.le_refl _) (.cells (nuv n) 32))
  have HN := Lib.hid hn
  clear hn
  go_enter Try.func9, Try.ntmps9
  go_wp2_with fail
  refine (encodeNumber_any 6 n (by decide) HN.out _).mono ?_
  rintro e w1 ⟨rfl, b1⟩
  go_wp2_with fail
  exact ret_two 2 3 (.string (numT 6 n)) (.int .i64 0) (by kernel_rfl) (by kernel_rfl) (by kernel_rfl) (by kernel_rfl) ⟨rfl, bel_in HB.out b1⟩
theorem EncodeFast_any (n : Nat) (hn : n ≤ 18446744073709551615) (w : World) :
    Calls Try.prog 10 #[.agg (nuv n)] w fun e w' => e = .returned (encNV 7 n) ∧ Below w.heap.size w w' := by
  have HB := Lib.hid ((Below.refl _ w).alloc (Nat.le_refl _) (.cells (nuv n) 35))
  have HN := Lib.hid hn
  clear hn
  go_enter Try.func10, Try.ntmps10
  go_wp2_with fail
  refine (encodeNumber_any 7 n (by decide) HN.out _).mono ?_
  rintro e w1 ⟨rfl, b1⟩
  go_wp2_with fail
  exact ret_two 2 3 (.string (numT 7 n)) (.int .i64 0) (by kernel_rfl) (by kernel_rfl) (by kernel_rfl) (by kernel_rfl) ⟨rfl, bel_in HB.out b1⟩

/-! ### Whether a Rst may be -/
theorem validRst_any (f r : Int) (w : World) :
    Calls Try.prog 26 #[.agg (rsv f r)] w fun e w' => e = .returned (.bool (decide (May f r))) ∧ Below w.heap.size w w' := by
  have HB := Lib.hid ((Below.refl _ w).alloc (Nat.le_refl _) (.cells (rsv f r) 26))
  by_cases h1 : 0 ≤ f
  · by_cases h2 : f < 16
    · by_cases h3 : 0 ≤ r
      · by_cases h4 : r ≤ 255
        · rw [decide_eq_true (show May f r by unfold May; omega)]
          go_enter Try.func26, Try.ntmps26
          go_wp2
          go_ret; exact ⟨rfl, HB.out⟩
        · rw [decide_eq_false (show ¬ May f r by unfold May; omega)]
          go_enter Try.func26, Try.ntmps26
          go_wp2
          go_ret; exact ⟨rfl, HB.out⟩
      · rw [decide_eq_false (show ¬ May f r by unfold May; omega)]
        go_enter Try.func26, Try.ntmps26
        go_wp2
        go_ret; exact ⟨rfl, HB.out⟩
    · rw [decide_eq_false (show ¬ May f r by unfold May; omega)]
      go_enter Try.func26, Try.ntmps26
      go_wp2
      go_ret; exact ⟨rfl, HB.out⟩
  · rw [decide_eq_false (show ¬ May f r by unfold May; omega)]
    go_enter Try.func26, Try.ntmps26
    go_wp2
    go_ret; exact ⟨rfl, HB.out⟩
end Go.Proofs.Ytbimdlcgjpeheaa
