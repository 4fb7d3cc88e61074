/-
  AllCtrl, put together of CtrlPlain, CtrlWalks, CtrlEnc, CtrlRead, CtrlDecT.
-/
import Derived.Test.YtnlhhjhidkjlbaaGreatDoorAllBase
import Derived.Laws.Tables
import Derived.Laws.Rows
import Derived.WalkLawsBesides
namespace Go.Proofs.YtnlhhjhidkjlbaaGreatDoor.L13
set_option linter.unusedVariables false

theorem none_and (a : ByteArray) : (⟨#[]⟩ : ByteArray) ++ a = a := by apply ByteArray.ext; rw [ByteArray.data_append]; simp
theorem be_len (m n : Nat) : (txt (be m n)).size = m := by rw [txt_size, be_length]
theorem byte_of (n : Nat) (h : n < 256) : (UInt8.ofNat n).toNat = n := by rw [UInt8.toNat_ofNat']; exact Nat.mod_eq_of_lt h
theorem empty_of (s : ByteArray) (h : s.size = 0) : s = ⟨#[]⟩ := ByteArray.ext (Array.eq_empty_of_size_eq_zero h)
theorem byteAt_txt (l : List UInt8) (i : Nat) : byteAt (txt l) i = (l.getD i 0).toNat := rfl

/-! ### Whether a text is a body -/
/-- Whether m bytes are too few, or too many, where there must be n. -/
def fit (n m : Nat) : Int := if m < n then 4 else if n < m then 5 else 0
theorem fit_iff (n m : Nat) : fit n m = 0 ↔ m = n := by unfold fit; (repeat' split) <;> omega
theorem fit_le (n m : Nat) : 0 ≤ fit n m ∧ fit n m ≤ 5 := by unfold fit; (repeat' split) <;> omega
/-- Why a text is no body of the subtype k, of n bytes; 0 where it is one. -/
def wrong (k n : Nat) (s : ByteArray) : Int := if s.size = 0 then 4 else if byteAt s 0 / 16 = k then fit n s.size else 7
theorem wrong_0 (k n : Nat) (s : ByteArray) (h : s.size = 0) : wrong k n s = 4 := by unfold wrong; rw [if_pos h]
theorem wrong_7 (k n : Nat) (s : ByteArray) (h : s.size ≠ 0) (hk : byteAt s 0 / 16 ≠ k) : wrong k n s = 7 := by unfold wrong; rw [if_neg h, if_neg hk]
theorem wrong_in (k n : Nat) (s : ByteArray) (h : s.size ≠ 0) (hk : byteAt s 0 / 16 = k) : wrong k n s = fit n s.size := by unfold wrong; rw [if_neg h, if_pos hk]
theorem wrong_iff (k n : Nat) (s : ByteArray) (hn : n ≠ 0) : wrong k n s = 0 ↔ s.size = n ∧ byteAt s 0 / 16 = k := by
  unfold wrong
  split
  · constructor
    · intro h; exact absurd h (by decide)
    · rintro ⟨h, _⟩; omega
  · split
    · rw [fit_iff]
      constructor
      · intro h; exact ⟨h, by assumption⟩
      · exact fun h => h.1
    · constructor
      · intro h; exact absurd h (by decide)
      · rintro ⟨_, h⟩; contradiction
theorem wrong_le (k n : Nat) (s : ByteArray) : 0 ≤ wrong k n s ∧ wrong k n s ≤ 7 := by
  unfold wrong
  have := fit_le n s.size
  (repeat' split) <;> omega

/-! ### The bodies -/
def prioT (b : Bool) : ByteArray := txt [if b then 81 else 80]
def numT (k n : Nat) : ByteArray := txt (UInt8.ofNat (k * 16) :: 0 :: be 8 n)
def rstT (f r : Nat) : ByteArray := txt [UInt8.ofNat (128 + f), UInt8.ofNat r]
/-- A Rst that may be. -/
abbrev May (f r : Int) : Prop := (0 ≤ f ∧ f ≤ 15) ∧ (0 ≤ r ∧ r ≤ 255)
/-- What a Rst is laid as, and why it is not. -/
def encT (f r : Int) : ByteArray × Int := if May f r then (rstT f.toNat r.toNat, 0) else (⟨#[]⟩, 2)
theorem encT_t (f r : Int) (h : May f r) : encT f r = (rstT f.toNat r.toNat, 0) := if_pos h
theorem encT_f (f r : Int) (h : ¬ May f r) : encT f r = (⟨#[]⟩, 2) := if_neg h
theorem prioT_size (b : Bool) : (prioT b).size = 1 := by rw [prioT, txt_size]; rfl
theorem numT_size (k n : Nat) : (numT k n).size = 10 := by rw [numT, txt_size]; simp [be_length]
theorem rstT_size (f r : Nat) : (rstT f r).size = 2 := by rw [rstT, txt_size]; rfl
theorem encT_size (f r : Int) : (encT f r).1.size ≤ 2 := by
  unfold encT; split
  · rw [rstT_size]; omega
  · exact Nat.zero_le _

/-! ### What a text is -/
def gotP (s : ByteArray) : Bool := byteAt s 0 % 2 == 1
/-- A Prio's Backup; a number; a Rst's Flags, its Reason. -/
def decP (s : ByteArray) : Bool := if wrong 5 1 s = 0 then gotP s else false
def decN (k : Nat) (s : ByteArray) : Nat := if wrong k 10 s = 0 then num s 2 8 else 0
def decF (s : ByteArray) : Nat := if wrong 8 2 s = 0 then byteAt s 0 % 16 else 0
def decR (s : ByteArray) : Nat := if wrong 8 2 s = 0 then byteAt s 1 else 0
theorem decN_le (k : Nat) (s : ByteArray) : decN k s ≤ 18446744073709551615 := by
  unfold decN; split
  · have := num_lt s 2 8; omega
  · omega

/-! ### What was laid is read -/
theorem prio_wrong (b : Bool) : wrong 5 1 (prioT b) = 0 := by
  rw [wrong_iff _ _ _ (by decide)]
  exact ⟨prioT_size b, by cases b <;> rfl⟩
theorem prio_got (b : Bool) : decP (prioT b) = b := by
  unfold decP; rw [if_pos (prio_wrong b)]; cases b <;> rfl
theorem num_wrong (k n : Nat) (hk : k < 16) : wrong k 10 (numT k n) = 0 := by
  rw [wrong_iff _ _ _ (by decide)]
  refine ⟨numT_size k n, ?_⟩
  rw [numT, byteAt_txt, List.getD_cons_zero, byte_of _ (by omega)]
  omega
theorem num_got (k n : Nat) (hk : k < 16) (hn : n ≤ 18446744073709551615) : decN k (numT k n) = n := by
  unfold decN; rw [if_pos (num_wrong k n hk)]
  have h := num_mid [UInt8.ofNat (k * 16), 0] [] 2 8 n rfl
  rw [List.append_nil] at h
  show num (txt ([UInt8.ofNat (k * 16), 0] ++ be 8 n)) 2 8 = n
  rw [h]
  exact Nat.mod_eq_of_lt (by omega)
theorem rst_wrong (f r : Nat) (hf : f ≤ 15) : wrong 8 2 (rstT f r) = 0 := by
  rw [wrong_iff _ _ _ (by decide)]
  refine ⟨rstT_size f r, ?_⟩
  rw [rstT, byteAt_txt, List.getD_cons_zero, byte_of _ (by omega)]
  omega
theorem rst_gotF (f r : Nat) (hf : f ≤ 15) : decF (rstT f r) = f := by
  unfold decF; rw [if_pos (rst_wrong f r hf), rstT, byteAt_txt, List.getD_cons_zero, byte_of _ (by omega)]
  omega
theorem rst_gotR (f r : Nat) (hf : f ≤ 15) (hr : r ≤ 255) : decR (rstT f r) = r := by
  unfold decR; rw [if_pos (rst_wrong f r hf), rstT, byteAt_txt]
  show (UInt8.ofNat r).toNat = r
  exact byte_of _ (by omega)
end Go.Proofs.YtnlhhjhidkjlbaaGreatDoor.L13
namespace Go.Proofs.YtnlhhjhidkjlbaaGreatDoor.L13
open Go.ChangeShapes Go.WideShapes Go.ChangeAt Go.RowKit
set_option linter.unusedVariables false

/-- The structs' cells. -/
abbrev prv (b : Bool) : Array Value := #[.bool b]
abbrev nuv (n : Nat) : Array Value := #[.int .u64 (n : Int)]
abbrev rsv (f r : Int) : Array Value := #[.int .i64 f, .int .i64 r]
theorem pr_size : (Tryz.prog.info? 36).map (·.size) = some 1 := by kernel_rfl
theorem fa_size : (Tryz.prog.info? 38).map (·.size) = some 1 := by kernel_rfl
theorem fs_size : (Tryz.prog.info? 40).map (·.size) = some 1 := by kernel_rfl
theorem rs_size : (Tryz.prog.info? 42).map (·.size) = some 2 := by kernel_rfl

/-! ### Two of them compared -/
set_option maxRecDepth 100000 in
theorem pr_equal (x y B : Bool) (h : (x == y) = B) (w : World) : (Op.equalIn 10000 36 (.agg (prv x)) (.agg (prv y))).run Tryz.prog w = .ok B w := by
  subst h
  rw [show (10000 : Nat) = 9999 + 1 from rfl, run_equalIn_agg (P := Tryz.prog) w 9999 36 _ _ (by kernel_rfl) (by kernel_rfl)]
  rw [show (9999 : Nat) = 9998 + 1 from rfl]
  simp only [Program.fieldsOf, Tryz.underlying36, Op.eqFields]
  simp [go_sem]
  cases x <;> cases y <;> rfl
set_option maxRecDepth 100000 in
theorem fa_equal (x y : Nat) (B : Bool) (h : decide (x = y) = B) (w : World) : (Op.equalIn 10000 38 (.agg (nuv x)) (.agg (nuv y))).run Tryz.prog w = .ok B w := by
  subst h
  rw [show (10000 : Nat) = 9999 + 1 from rfl, run_equalIn_agg (P := Tryz.prog) w 9999 38 _ _ (by kernel_rfl) (by kernel_rfl)]
  rw [show (9999 : Nat) = 9998 + 1 from rfl]
  simp only [Program.fieldsOf, Tryz.underlying38, Op.eqFields]
  simp [go_sem]
  by_cases h : x = y
  · simp [h]
  · simp [h, show ¬ (x : Int) = (y : Int) by omega]
set_option maxRecDepth 100000 in
theorem fs_equal (x y : Nat) (B : Bool) (h : decide (x = y) = B) (w : World) : (Op.equalIn 10000 40 (.agg (nuv x)) (.agg (nuv y))).run Tryz.prog w = .ok B w := by
  subst h
  rw [show (10000 : Nat) = 9999 + 1 from rfl, run_equalIn_agg (P := Tryz.prog) w 9999 40 _ _ (by kernel_rfl) (by kernel_rfl)]
  rw [show (9999 : Nat) = 9998 + 1 from rfl]
  simp only [Program.fieldsOf, Tryz.underlying40, Op.eqFields]
  simp [go_sem]
  by_cases h : x = y
  · simp [h]
  · simp [h, show ¬ (x : Int) = (y : Int) by omega]
set_option maxRecDepth 100000 in
theorem rs_equal (f r g q : Int) (B : Bool) (h : decide (f = g ∧ r = q) = B) (w : World) : (Op.equalIn 10000 42 (.agg (rsv f r)) (.agg (rsv g q))).run Tryz.prog w = .ok B w := by
  subst h
  rw [show (10000 : Nat) = 9999 + 1 from rfl, run_equalIn_agg (P := Tryz.prog) w 9999 42 _ _ (by kernel_rfl) (by kernel_rfl)]
  rw [show (9999 : Nat) = 9998 + 1 from rfl]
  simp only [Program.fieldsOf, Tryz.underlying42, Op.eqFields]
  simp [go_sem]
  by_cases h : f = g <;> by_cases h' : r = q <;> simp [h, h']

/-! ### What is laid -/
/-- What the encoders answer. -/
def encPV (b : Bool) : Value := .tuple #[.string (prioT b), .int .i64 0]
def encNV (k n : Nat) : Value := .tuple #[.string (numT k n), .int .i64 0]
def encTV (f r : Int) : Value := .tuple #[.string (encT f r).1, .int .i64 (encT f r).2]
theorem ret_two {P : Program} {fn : Func} {R : Ending → World → Prop} {a : Act} {w : World} (t u : Tmp) (v z : Value) (hf : fn.results = #[.tmp t, .tmp u]) (ht : a.tmps.getD t undef = v) (hu : a.tmps.getD u undef = z) (hd : a.defers = []) (hR : R (.returned (.tuple #[v, z])) w) : bodyPost P fn R .ret a w :=
  bodyPost_ret (by rw [results_tmp2 hf, ht, hu]) hd hR
theorem EncodePrio_any (b : Bool) (w : World) :
    Calls Tryz.prog 74 #[.agg (prv b)] w fun e w' => e = .returned (encPV b) ∧ Below w.heap.size w w' := by
  have HB := Lib.hid ((Below.refl _ w).alloc (Nat.le_refl _) (.cells (prv b) 36))
  cases b
  · go_enter Tryz.func74, Tryz.ntmps74
    go_wp2_with fail
    refine (answer (Put8_any ⟨#[]⟩ 80 _ (by decide) (by decide)) (v' := .string (prioT false)) (by kernel_rfl)).mono ?_
    rintro e w1 ⟨rfl, b1⟩
    go_wp2_with fail
    exact ret_two 2 3 (.string (prioT false)) (.int .i64 0) (by kernel_rfl) (by kernel_rfl) (by kernel_rfl) (by kernel_rfl) ⟨rfl, bel_in HB.out b1⟩
  · go_enter Tryz.func74, Tryz.ntmps74
    go_wp2_with fail
    refine (answer (Put8_any ⟨#[]⟩ 81 _ (by decide) (by decide)) (v' := .string (prioT true)) (by kernel_rfl)).mono ?_
    rintro e w1 ⟨rfl, b1⟩
    go_wp2_with fail
    exact ret_two 2 3 (.string (prioT true)) (.int .i64 0) (by kernel_rfl) (by kernel_rfl) (by kernel_rfl) (by kernel_rfl) ⟨rfl, bel_in HB.out b1⟩
theorem one_byte (n : Nat) : (⟨#[]⟩ : ByteArray) ++ ⟨(be 1 n).toArray⟩ = txt [UInt8.ofNat n] := by rw [none_and]; apply ByteArray.ext; simp [be, txt]
theorem encodeNumber_any (k n : Nat) (hk : k < 16) (hn : n ≤ 18446744073709551615) (w : World) :
    Calls Tryz.prog 142 #[.int .u8 (k : Int), .int .u64 (n : Int)] w fun e w' => e = .returned (.string (numT k n)) ∧ Below w.heap.size w w' := by
  obtain ⟨m, hm⟩ := eqx (k * 16)
  have hc : (k : Int) * 16 % 256 = (m : Int) := by omega
  have HK := Lib.hid (show m ≤ 255 by omega)
  have HN := Lib.hid hn
  obtain ⟨A, hA⟩ := eqx (txt [UInt8.ofNat m])
  obtain ⟨C, hC⟩ := eqx (txt [UInt8.ofNat m, 0])
  have HA := Lib.hid (show (⟨#[]⟩ : ByteArray) ++ ⟨(be 1 m).toArray⟩ = A by rw [hA]; exact one_byte _)
  have HC := Lib.hid (show A ++ ⟨(be 1 0).toArray⟩ = C by rw [hA, hC]; exact txt_app [UInt8.ofNat m] [0])
  have HT := Lib.hid (show C ++ ⟨(be 8 n).toArray⟩ = numT k n by rw [hC, numT, ← hm]; exact txt_app [UInt8.ofNat m, 0] (be 8 n))
  have HS := Lib.hid (show A.size ≤ 10 ∧ C.size ≤ 10 by rw [hA, hC, txt_size, txt_size]; exact ⟨by simp, by simp⟩)
  clear hA hC hk hn hm
  go_enter Tryz.func142, Tryz.ntmps142
  go_wp2_with fail
  refine (answer (Put8_any ⟨#[]⟩ m _ (by decide) HK.out) (congrArg Value.string HA.out)).mono ?_
  rintro e w1 ⟨rfl, b1⟩
  have HB1 := Lib.hid b1
  clear b1
  go_wp2_with fail
  refine (answer (Put8_any A 0 _ (by have := HS.out; omega) (by decide)) (congrArg Value.string HC.out)).mono ?_
  rintro e w2 ⟨rfl, b2⟩
  have HB2 := Lib.hid (bel_in HB1.out b2)
  clear b2
  go_wp2_with fail
  refine (answer (Put64_any C n _ (by have := HS.out; omega) HN.out) (congrArg Value.string HT.out)).mono ?_
  rintro e w3 ⟨rfl, b3⟩
  have HB3 := Lib.hid (bel_in HB2.out b3)
  clear b3
  go_wp2_with fail
  go_ret; exact ⟨rfl, HB3.out⟩
theorem EncodeFail_any (n : Nat) (hn : n ≤ 18446744073709551615) (w : World) :
    Calls Tryz.prog 78 #[.agg (nuv n)] w fun e w' => e = .returned (encNV 6 n) ∧ Below w.heap.size w w' := by
  have HB := Lib.hid ((Below.refl _ w).alloc (Nat.le_refl _) (.cells (nuv n) 38))
  have HN := Lib.hid hn
  clear hn
  go_enter Tryz.func78, Tryz.ntmps78
  go_wp2_with fail
  refine (encodeNumber_any 6 n (by decide) HN.out _).mono ?_
  rintro e w1 ⟨rfl, b1⟩
  go_wp2_with fail
  exact ret_two 2 3 (.string (numT 6 n)) (.int .i64 0) (by kernel_rfl) (by kernel_rfl) (by kernel_rfl) (by kernel_rfl) ⟨rfl, bel_in HB.out b1⟩
theorem EncodeFast_any (n : Nat) (hn : n ≤ 18446744073709551615) (w : World) :
    Calls Tryz.prog 82 #[.agg (nuv n)] w fun e w' => e = .returned (encNV 7 n) ∧ Below w.heap.size w w' := by
  have HB := Lib.hid ((Below.refl _ w).alloc (Nat.le_refl _) (.cells (nuv n) 40))
  have HN := Lib.hid hn
  clear hn
  go_enter Tryz.func82, Tryz.ntmps82
  go_wp2_with fail
  refine (encodeNumber_any 7 n (by decide) HN.out _).mono ?_
  rintro e w1 ⟨rfl, b1⟩
  go_wp2_with fail
  exact ret_two 2 3 (.string (numT 7 n)) (.int .i64 0) (by kernel_rfl) (by kernel_rfl) (by kernel_rfl) (by kernel_rfl) ⟨rfl, bel_in HB.out b1⟩

/-! ### Whether a Rst may be -/
theorem validRst_any (f r : Int) (w : World) :
    Calls Tryz.prog 148 #[.agg (rsv f r)] w fun e w' => e = .returned (.bool (decide (May f r))) ∧ Below w.heap.size w w' := by
  have HB := Lib.hid ((Below.refl _ w).alloc (Nat.le_refl _) (.cells (rsv f r) 42))
  by_cases h1 : 0 ≤ f
  · by_cases h2 : f < 16
    · by_cases h3 : 0 ≤ r
      · by_cases h4 : r ≤ 255
        · rw [decide_eq_true (show May f r by unfold May; omega)]
          go_enter Tryz.func148, Tryz.ntmps148
          go_wp2
          go_ret; exact ⟨rfl, HB.out⟩
        · rw [decide_eq_false (show ¬ May f r by unfold May; omega)]
          go_enter Tryz.func148, Tryz.ntmps148
          go_wp2
          go_ret; exact ⟨rfl, HB.out⟩
      · rw [decide_eq_false (show ¬ May f r by unfold May; omega)]
        go_enter Tryz.func148, Tryz.ntmps148
        go_wp2
        go_ret; exact ⟨rfl, HB.out⟩
    · rw [decide_eq_false (show ¬ May f r by unfold May; omega)]
      go_enter Tryz.func148, Tryz.ntmps148
      go_wp2
      go_ret; exact ⟨rfl, HB.out⟩
  · rw [decide_eq_false (show ¬ May f r by unfold May; omega)]
    go_enter Tryz.func148, Tryz.ntmps148
    go_wp2
    go_ret; exact ⟨rfl, HB.out⟩
end Go.Proofs.YtnlhhjhidkjlbaaGreatDoor.L13
namespace Go.Proofs.YtnlhhjhidkjlbaaGreatDoor.L13
open Go.ChangeShapes Go.WideShapes Go.ChangeAt Go.RowKit
set_option linter.unusedVariables false

theorem encTV_t (f r : Nat) (h : May (f : Int) (r : Int)) : encTV (f : Int) (r : Int) = .tuple #[.string (rstT f r), .int .i64 0] := by unfold encTV; rw [encT_t _ _ h]; rfl
theorem encTV_f (f r : Int) (h : ¬ May f r) : encTV f r = .tuple #[.string ⟨#[]⟩, .int .i64 2] := by unfold encTV; rw [encT_f _ _ h]
theorem ex_add8 {ρ : Operand → Value} {o : Oper} {w : World} (t u : TypeId) (x y : Operand) (ho : o.op = .binOp .add t x y u) (a b c : Nat) (hx : ρ x = .int .u8 (a : Int)) (hy : ρ y = .int .u8 (b : Int)) (ht : Tryz.prog.underlying t = some (.int .u8)) (h : a + b = c) (hc : c ≤ 255) :
    (execOp ρ o).run Tryz.prog w = .ok (.value (.int .u8 (c : Int))) w := by
  have e : IntKind.u8.wrap ((a : Int) + (b : Int)) = (c : Int) := by rw [IntKind.wrap_u8]; omega
  unfold execOp
  rw [ho]
  simp [hx, hy, go_sem, e]
theorem ex_add_i64 {ρ : Operand → Value} {o : Oper} {w : World} (t u : TypeId) (x y : Operand) (ho : o.op = .binOp .add t x y u) (a b c : Nat) (hx : ρ x = .int .i64 (a : Int)) (hy : ρ y = .int .i64 (b : Int)) (ht : Tryz.prog.underlying t = some (.int .i64)) (h : a + b = c) (hc : c ≤ 255) :
    (execOp ρ o).run Tryz.prog w = .ok (.value (.int .i64 (c : Int))) w := by
  have e : IntKind.i64.wrap ((a : Int) + (b : Int)) = (c : Int) := by rw [IntKind.wrap_i64]; omega
  unfold execOp
  rw [ho]
  simp [hx, hy, go_sem, e]
theorem conv_i64_u64 (n : Nat) (h : n ≤ 9223372036854775807) (w : World) : (convert 3 22 (.int .i64 (n : Int))).run Tryz.prog w = .ok (.int .u64 (n : Int)) w := by
  rw [run_convert_int w 3 22 .i64 _ (by kernel_rfl) (by kernel_rfl), show Tryz.prog.intKind 22 = .u64 by kernel_rfl, IntKind.wrap_u64, show (n : Int) % 18446744073709551616 = (n : Int) by omega]
set_option maxHeartbeats 1000000 in
set_option maxRecDepth 100000 in
theorem EncodeRst_t (f r : Nat) (hm : May (f : Int) (r : Int)) (w : World) :
    Calls Tryz.prog 86 #[.agg (rsv (f : Int) (r : Int))] w fun e w' => e = .returned (encTV (f : Int) (r : Int)) ∧ Below w.heap.size w w' := by
  rw [encTV_t f r hm]
  have HF := Lib.hid (show f ≤ 15 by unfold May at hm; omega)
  have HR := Lib.hid (show r ≤ 255 by unfold May at hm; omega)
  have HD := Lib.hid (show decide (May (f : Int) (r : Int)) = true from decide_eq_true hm)
  obtain ⟨m, hmf⟩ : ∃ m, 128 + f = m := ⟨_, rfl⟩
  have HM := Lib.hid (show m ≤ 255 by have := HF.out; omega)
  have HMF := Lib.hid hmf
  obtain ⟨T, hT⟩ := eqx (rstT f r)
  rw [← hT]
  obtain ⟨A, hA⟩ := eqx (txt [UInt8.ofNat m])
  have HA := Lib.hid (show (⟨#[]⟩ : ByteArray) ++ ⟨(be 1 m).toArray⟩ = A by rw [hA]; exact one_byte _)
  have HT := Lib.hid (show A ++ ⟨(be 1 r).toArray⟩ = T by rw [hA, hT, rstT, hmf, show (be 1 r) = [UInt8.ofNat r] by simp [be]]; exact txt_app [UInt8.ofNat m] [UInt8.ofNat r])
  have HS := Lib.hid (show A.size ≤ 1 ∧ T.size ≤ 2 by rw [hA, hT, txt_size, rstT_size]; exact ⟨by simp, by omega⟩)
  obtain ⟨w0, hw0⟩ := eqx (w.alloc (.cells (rsv (f : Int) (r : Int)) 42))
  obtain ⟨b0, hb0⟩ := eqx w.heap.size
  have hc0 : Blk w0 b0 42 (rsv (f : Int) (r : Int)) := by rw [hw0, hb0]; exact Blk.new _ _ _
  have HBW := Lib.hid (bel0 hw0)
  have HCC := Lib.hid (show Blk (w.alloc (.cells (rsv (f : Int) (r : Int)) 42)) w.heap.size 42 (rsv (f : Int) (r : Int)) from Blk.new _ _ _)
  have HC0 := Lib.hid hc0
  have HW0 := Lib.hid hw0
  have HB0 := Lib.hid hb0
  clear hm hmf hT hA hw0 hb0 hc0
  go_enter Tryz.func86, Tryz.ntmps86
  go_wp2_with (refine wpList_load_row rfl 42 _ rfl w.heap.size rfl 42 (rsv (f : Int) (r : Int)) (0, 0) _ ?_ Tryz.underlying42 rfl rs_size ?_; exact HCC.out)
  refine (validRst_any (f : Int) (r : Int) _).mono ?_
  rintro e V ⟨rfl, bv⟩
  rw [HD.out]
  have bv0 : Below w0.heap.size w0 V := by rw [HW0.out]; exact bv
  have HC := Lib.hid (HC0.out.below bv0 HC0.out.lt)
  have HBV := Lib.hid (HBW.out.trans (bv0.mono HBW.out.size))
  clear bv bv0 HCC
  go_upto_region 3 with fail
  rw [← HB0.out]
  refine hStart (n := 11) rfl fun W0 B0 => ?_
  refine stF 0 (.pointer (some ⟨b0, 0, none⟩)) rfl B0 (stG 1 (.int .i64 (f : Int)) rfl B0 (fun W b => xLd 3 (.tmp 7) ⟨b0, 0, none⟩ ((HC.out.below b HC.out.lt).cell 0)) (stG 2 (.int .u8 (f : Int)) rfl B0 (fun W _ => ex_convert_to (v := .int .i64 (f : Int)) 3 5 (.tmp 8) (by kernel_rfl) (by kernel_rfl) (conv_i64_u8 (f : Int) f (by have := HF.out; have := HR.out; omega) W)) (stG 3 (.int .u8 (m : Int)) rfl B0 (fun _ _ => ex_add8 5 5 (.const (.int .u8 128)) (.tmp 9) (by kernel_rfl) 128 f m (by kernel_rfl) (by kernel_rfl) (by kernel_rfl) HMF.out HM.out) (stF 5 (.pointer (some ⟨b0, 1, none⟩)) rfl B0 (stG 6 (.int .i64 (r : Int)) rfl B0 (fun W b => xLd 3 (.tmp 12) ⟨b0, 1, none⟩ ((HC.out.below b HC.out.lt).cell 1)) (stG 7 (.int .u8 (r : Int)) rfl B0 (fun W _ => ex_convert_to (v := .int .i64 (r : Int)) 3 5 (.tmp 13) (by kernel_rfl) (by kernel_rfl) (conv_i64_u8 (r : Int) r (by have := HF.out; have := HR.out; omega) W)) ?_))))))
  refine stB 4 rfl (answer (Put8_any ⟨#[]⟩ m _ (by decide) HM.out) (congrArg Value.string HA.out)) B0 fun W1 B1 => ?_
  clear B0
  refine stB 8 rfl (answer (Put8_any A r _ (by have := HS.out.1; omega) HR.out) (congrArg Value.string HT.out)) B1 fun W2 B2 => ?_
  clear B1
  refine stF 9 (.string T) rfl B2 (stF 10 (.int .i64 0) rfl B2 ?_)
  refine held_end (by kernel_rfl) ?_
  have HE := Lib.hid (HBV.out.trans (B2.mono HBV.out.size))
  go_wp2_with fail
  exact ret_two 2 3 (.string T) (.int .i64 0) (by kernel_rfl) (by kernel_rfl) (by kernel_rfl) (by kernel_rfl) ⟨rfl, HE.out⟩
set_option maxRecDepth 100000 in
theorem EncodeRst_f (f r : Int) (hm : ¬ May f r) (w : World) :
    Calls Tryz.prog 86 #[.agg (rsv f r)] w fun e w' => e = .returned (encTV f r) ∧ Below w.heap.size w w' := by
  rw [encTV_f f r hm]
  have HD := Lib.hid (show decide (May f r) = false from decide_eq_false hm)
  have HCC := Lib.hid (Blk.new w 42 (rsv f r))
  have HB := Lib.hid ((Below.refl _ w).alloc (Nat.le_refl _) (.cells (rsv f r) 42))
  clear hm
  go_enter Tryz.func86, Tryz.ntmps86
  go_wp2_with (refine wpList_load_row rfl 42 _ rfl w.heap.size rfl 42 (rsv f r) (0, 0) _ ?_ Tryz.underlying42 rfl rs_size ?_; exact HCC.out)
  refine (validRst_any f r _).mono ?_
  rintro e V ⟨rfl, bv⟩
  rw [HD.out]
  go_wp2_with fail
  exact ret_two 2 3 (.string ⟨#[]⟩) (.int .i64 2) (by kernel_rfl) (by kernel_rfl) (by kernel_rfl) (by kernel_rfl) ⟨rfl, bel_in HB.out bv⟩
theorem EncodeRst_any (f r : Int) (w : World) :
    Calls Tryz.prog 86 #[.agg (rsv f r)] w fun e w' => e = .returned (encTV f r) ∧ Below w.heap.size w w' := by
  by_cases hm : May f r
  · obtain ⟨n, rfl⟩ := Int.eq_ofNat_of_zero_le hm.1.1
    obtain ⟨k, rfl⟩ := Int.eq_ofNat_of_zero_le hm.2.1
    exact EncodeRst_t n k hm w
  · exact EncodeRst_f f r hm w
set_option maxHeartbeats 1000000 in
set_option maxRecDepth 100000 in
theorem encR_t (f r : Nat) (hm : May (f : Int) (r : Int)) (w : World) :
    Calls Tryz.prog 98 #[.agg (rsv (f : Int) (r : Int))] w fun e w' => e = .returned (encTV (f : Int) (r : Int)) ∧ Below w.heap.size w w' := by
  rw [encTV_t f r hm]
  have l0 : ¬ (f : Int) < 0 := by omega
  have l1 : (f : Int) ≤ 15 := hm.1.2
  have l2 : ¬ (r : Int) < 0 := by omega
  have l3 : (r : Int) ≤ 255 := hm.2.2
  have HF := Lib.hid (show f ≤ 15 by unfold May at hm; omega)
  have HR := Lib.hid (show r ≤ 255 by unfold May at hm; omega)
  have HD := Lib.hid (show decide (May (f : Int) (r : Int)) = true from decide_eq_true hm)
  obtain ⟨m, hmf⟩ : ∃ m, 128 + f = m := ⟨_, rfl⟩
  have HM := Lib.hid (show m ≤ 255 by have := HF.out; omega)
  have HMF := Lib.hid hmf
  obtain ⟨T, hT⟩ := eqx (rstT f r)
  rw [← hT]
  obtain ⟨A, hA⟩ := eqx (txt (be 1 m))
  obtain ⟨R, hR⟩ := eqx (txt (be 1 r))
  have HA := Lib.hid hA.symm
  have HRR := Lib.hid hR.symm
  have HT := Lib.hid (show A ++ R = T by rw [hA, hR, hT, rstT, hmf, show be 1 m = [UInt8.ofNat m] by simp [be], show be 1 r = [UInt8.ofNat r] by simp [be]]; exact txt_app [UInt8.ofNat m] [UInt8.ofNat r])
  have HS := Lib.hid (show A.size ≤ 1 ∧ R.size ≤ 1 by rw [hA, hR, be_len, be_len]; omega)
  obtain ⟨V, hV⟩ := eqx (w.alloc (.cells (rsv (f : Int) (r : Int)) 42))
  obtain ⟨b0, hb0⟩ := eqx w.heap.size
  have HC := Lib.hid (show Blk V b0 42 (rsv (f : Int) (r : Int)) by rw [hV, hb0]; exact Blk.new _ _ _)
  have HBV := Lib.hid (bel0 hV)
  have HB0 := Lib.hid hb0
  have HV := Lib.hid hV
  clear hm hmf hT hA hR hV hb0
  go_enter Tryz.func98, Tryz.ntmps98
  go_upto_region 3 with fail
  rw [← HV.out, ← HB0.out]
  clear l0 l1 l2 l3
  refine hStart (n := 12) rfl fun W0 B0 => ?_
  refine stF 0 (.pointer (some ⟨b0, 0, none⟩)) rfl B0 (stG 1 (.int .i64 (f : Int)) rfl B0 (fun W b => xLd 3 (.tmp 22) ⟨b0, 0, none⟩ ((HC.out.below b HC.out.lt).cell 0)) (stG 2 (.int .i64 (m : Int)) rfl B0 (fun _ _ => ex_add_i64 3 3 (.const (.int .i64 128)) (.tmp 23) (by kernel_rfl) 128 f m (by kernel_rfl) (by kernel_rfl) (by kernel_rfl) HMF.out HM.out) (stG 3 (.int .u64 (m : Int)) rfl B0 (fun W _ => ex_convert_to (v := .int .i64 (m : Int)) 3 22 (.tmp 24) (by kernel_rfl) (by kernel_rfl) (conv_i64_u64 m (by have := HM.out; have := HR.out; omega) W)) (stF 5 (.pointer (some ⟨b0, 1, none⟩)) rfl B0 (stG 6 (.int .i64 (r : Int)) rfl B0 (fun W b => xLd 3 (.tmp 27) ⟨b0, 1, none⟩ ((HC.out.below b HC.out.lt).cell 1)) (stG 7 (.int .u64 (r : Int)) rfl B0 (fun W _ => ex_convert_to (v := .int .i64 (r : Int)) 3 22 (.tmp 28) (by kernel_rfl) (by kernel_rfl) (conv_i64_u64 r (by have := HM.out; have := HR.out; omega) W)) ?_))))))
  refine stB 4 rfl (Laid_t m 1 A _ (by have := HM.out; omega) (by decide) (by decide) HA.out) B0 fun W1 B1 => ?_
  clear B0
  refine stB 8 rfl (Laid_t r 1 R _ (by have := HR.out; omega) (by decide) (by decide) HRR.out) B1 fun W2 B2 => ?_
  clear B1
  refine stG 9 (.string T) rfl B2 (fun _ _ => ex_strcat 9 9 (.tmp 26) (.tmp 30) (by kernel_rfl) (A) (R) T (by kernel_rfl) (by kernel_rfl) (by have := HS.out.1; omega) (by have := HS.out.2; omega) HT.out.symm) (stF 10 (.string T) rfl B2 (stF 11 (.int .i64 0) rfl B2 ?_))
  refine held_end (by kernel_rfl) ?_
  have HE := Lib.hid (HBV.out.trans (B2.mono HBV.out.size))
  go_wp2_with fail
  exact ret_two 2 3 (.string T) (.int .i64 0) (by kernel_rfl) (by kernel_rfl) (by kernel_rfl) (by kernel_rfl) ⟨rfl, HE.out⟩
set_option maxRecDepth 100000 in
theorem encR_f (f r : Int) (hm : ¬ May f r) (w : World) :
    Calls Tryz.prog 98 #[.agg (rsv f r)] w fun e w' => e = .returned (encTV f r) ∧ Below w.heap.size w w' := by
  rw [encTV_f f r hm]
  have HB := Lib.hid ((Below.refl _ w).alloc (Nat.le_refl _) (.cells (rsv f r) 42))
  have HM := Lib.hid hm
  clear hm
  by_cases h1 : f < 0
  · skip
    go_enter Tryz.func98, Tryz.ntmps98
    go_wp2
    exact ret_two 2 3 (.string ⟨#[]⟩) (.int .i64 2) (by kernel_rfl) (by kernel_rfl) (by kernel_rfl) (by kernel_rfl) ⟨rfl, HB.out⟩
  by_cases h2 : 15 < f
  · skip
    go_enter Tryz.func98, Tryz.ntmps98
    go_wp2
    exact ret_two 2 3 (.string ⟨#[]⟩) (.int .i64 2) (by kernel_rfl) (by kernel_rfl) (by kernel_rfl) (by kernel_rfl) ⟨rfl, HB.out⟩
  by_cases h3 : r < 0
  · skip
    go_enter Tryz.func98, Tryz.ntmps98
    go_wp2
    exact ret_two 2 3 (.string ⟨#[]⟩) (.int .i64 2) (by kernel_rfl) (by kernel_rfl) (by kernel_rfl) (by kernel_rfl) ⟨rfl, HB.out⟩
  have h4 : 255 < r := by have := HM.out; unfold May at this; omega
  go_enter Tryz.func98, Tryz.ntmps98
  go_wp2
  exact ret_two 2 3 (.string ⟨#[]⟩) (.int .i64 2) (by kernel_rfl) (by kernel_rfl) (by kernel_rfl) (by kernel_rfl) ⟨rfl, HB.out⟩
theorem EncodeRst_ref (f r : Int) (w : World) :
    Calls Tryz.prog 98 #[.agg (rsv f r)] w fun e w' => e = .returned (encTV f r) ∧ Below w.heap.size w w' := by
  by_cases hm : May f r
  · obtain ⟨n, rfl⟩ := Int.eq_ofNat_of_zero_le hm.1.1
    obtain ⟨k, rfl⟩ := Int.eq_ofNat_of_zero_le hm.2.1
    exact encR_t n k hm w
  · exact encR_f f r hm w
end Go.Proofs.YtnlhhjhidkjlbaaGreatDoor.L13
namespace Go.Proofs.YtnlhhjhidkjlbaaGreatDoor.L13
open Go.ChangeShapes Go.WideShapes Go.ChangeAt Go.RowKit
set_option linter.unusedVariables false

theorem U8_first (b : Nat) (s : ByteArray) (w : World) (hs : s.size ≤ 9223372036854775807) (h0 : s.size ≠ 0) (h : Cur w b s 0 false) :
    Calls Tryz.prog 137 #[.pointer (some ⟨b, 0, none⟩)] w fun e w' => e = .returned (.int .u8 (byteAt s 0 : Int)) ∧ Moved w w' b s 1 false := by
  have q := U8_t b s 0 w hs (by omega) h
  rw [num_1] at q
  exact q
/-- Where the cursor stands at last, as its End tells whether the bytes were as many as they must be. -/
def Fin (m : Nat) (s : ByteArray) (k : Nat) (br : Bool) : Prop := k ≤ s.size ∧ endO s k br = fit m s.size
theorem fin_one (s : ByteArray) (h0 : s.size ≠ 0) : Fin 1 s 1 false := by
  refine ⟨by omega, ?_⟩
  unfold endO fit
  (repeat' split) <;> first | rfl | omega | contradiction
theorem fin_two (s : ByteArray) (h0 : s.size ≠ 0) : Fin 2 s (posO s 1 false (1 : Nat)) (brO s 1 false (1 : Nat)) := by
  refine ⟨posO_le s 1 false _ (by omega), ?_⟩
  rcases fits_cases s 1 false (1 : Nat) with ⟨h, _⟩ | ⟨_, hn, hf⟩ | ⟨_, _, h1, hf⟩
  · cases h
  · rw [brO_f hf]; unfold endO fit; rw [if_pos rfl, if_pos (by omega)]
  · rw [brO_t hf, posO_t hf]
    unfold endO fit
    rw [if_neg (by decide), if_neg (show ¬ s.size < 2 by omega)]
    rfl
theorem fin_ten (s : ByteArray) (h0 : s.size ≠ 0) : Fin 10 s (posO s (posO s 1 false (1 : Nat)) (brO s 1 false (1 : Nat)) (8 : Nat)) (brO s (posO s 1 false (1 : Nat)) (brO s 1 false (1 : Nat)) (8 : Nat)) := by
  have hp := posO_le s 1 false (1 : Nat) (by omega)
  refine ⟨posO_le s _ _ _ hp, ?_⟩
  rcases fits_cases s 1 false (1 : Nat) with ⟨h, _⟩ | ⟨_, hn, hf⟩ | ⟨_, _, h1, hf⟩
  · cases h
  · rw [brO_f hf, posO_f hf]
    rw [brO_f (by unfold fits; rfl)]
    unfold endO fit; rw [if_pos rfl, if_pos (by omega)]
  · rw [brO_t hf, posO_t hf]
    rcases fits_cases s (1 + Int.toNat (1 : Nat)) false (8 : Nat) with ⟨h, _⟩ | ⟨_, hn, hf⟩ | ⟨_, _, h1, hf⟩
    · cases h
    · rw [brO_f hf]; unfold endO fit; rw [if_pos rfl, if_pos (by have : (Int.toNat (1 : Nat)) = 1 := rfl; omega)]
    · rw [brO_t hf, posO_t hf]
      have e1 : Int.toNat (1 : Nat) = 1 := rfl
      have e8 : Int.toNat (8 : Nat) = 8 := rfl
      unfold endO fit
      rw [if_neg (by decide), if_neg (show ¬ s.size < 10 by omega)]
      rfl
theorem got_two (s : ByteArray) (h : fit 2 s.size = 0) : numO s 1 false 1 = byteAt s 1 := by
  rw [fit_iff] at h
  rw [numO_t (by unfold fits; rw [h]; rfl), num_1]
theorem got_ten (s : ByteArray) (h : fit 10 s.size = 0) : numO s (posO s 1 false (1 : Nat)) (brO s 1 false (1 : Nat)) 8 = num s 2 8 := by
  rw [fit_iff] at h
  have hf : fits s 1 false (1 : Nat) = true := by unfold fits; rw [h]; rfl
  rw [posO_t hf, brO_t hf, numO_t (by unfold fits; rw [h]; rfl)]
  rfl

theorem decodeNumber_any (b : Nat) (s : ByteArray) (w : World) (hs : s.size ≤ 9223372036854775807) (h0 : s.size ≠ 0) (h : Cur w b s 1 false) :
    Calls Tryz.prog 145 #[.pointer (some ⟨b, 0, none⟩)] w fun e w' => ∃ n k br, e = .returned (.int .u64 ((n : Nat) : Int)) ∧ Moved w w' b s k br ∧ Fin 10 s k br ∧ (fit 10 s.size = 0 → n = num s 2 8) := by
  obtain ⟨p, hp⟩ := eqx (posO s 1 false (1 : Nat))
  obtain ⟨q, hq⟩ := eqx (brO s 1 false (1 : Nat))
  obtain ⟨n, hn⟩ := eqx (numO s p q 8)
  obtain ⟨m, hm⟩ := eqx (numO s 1 false 1)
  have H1 := Lib.hid (U8_any b s 1 false w hs (by omega) h)
  have H8 := Lib.hid (fun w1 (h1 : Cur w1 b s p q) => U64_any b s p q w1 hs (by rw [hp]; exact posO_le s 1 false _ (by omega)) h1)
  have HF := Lib.hid (fin_ten s h0)
  have HG := Lib.hid (got_ten s)
  rw [← hm, ← hp, ← hq] at H1
  rw [← hn] at H8
  rw [← hp, ← hq] at HF HG
  rw [← hn] at HG
  clear h hp hq hn hm hs h0
  go_enter Tryz.func145, Tryz.ntmps145
  go_wp2_with fail
  refine H1.out.mono ?_
  rintro e w1 ⟨rfl, m1⟩
  have HM := Lib.hid m1
  clear m1
  go_wp2_with fail
  refine (H8.out _ HM.out.2).mono ?_
  rintro e w2 ⟨rfl, m2⟩
  have HM2 := Lib.hid (HM.out.trans m2)
  clear m2
  go_wp2_with fail
  go_ret
  exact ⟨n, _, _, rfl, HM2.out, HF.out, HG.out⟩

/-! ### The closures -/
theorem results_row1 {P : Program} {fn : Func} {p : Tmp} {ty : TypeId} (h : fn.results = #[.cell p ty]) (tmps : Array Value) (w : World) (g : Nat) (t' : TypeId) (cs : Array Value) (fr : Nat × Nat) (d : TypeDesc)
    (hp : tmps.getD p undef = .pointer (some ⟨g, 0, none⟩)) (hg : w.heap[g]? = some (.cells cs t' fr))
    (hu : P.underlying ty = some d) (hd : (match d with | .struct _ | .array _ _ => true | _ => false) = true) (hi : (P.info? ty).map (·.size) = some cs.size) :
    (results fn tmps).run P w = .ok (.agg cs) w := by
  have hp' : tmps[p]?.getD undef = .pointer (some ⟨g, 0, none⟩) := by simpa using hp
  simp [results, h, hp', asAddr, run_loadVar_row w g t' ty cs fr d hg hu hd hi]
theorem below_setRow {B : Nat} {w W : World} {g : Nat} (h : Below B w W) (hg : B ≤ g) (cs : Array Value) : Below B w (W.setRow g cs) :=
  h.trans ⟨rfl, rfl, rfl, by simp, fun k hk => setRow_other W g k cs fun e => by omega⟩
theorem byte_odd : ∀ n : _root_.Fin 256, (bits .and .u8 (n.val : Int) 1 != 0) = (n.val % 2 == 1) := by decide +kernel
/-- A cursor that another block than a new one holds, behind a store into the new one. -/
theorem moved_row {w W : World} {b : Nat} {s : ByteArray} {k : Nat} {br : Bool} (h : Moved w W b s k br) (r : Nat) (hr : w.heap.size ≤ r) (hb : b ≠ r) (cs : Array Value) : Moved w (W.setRow r cs) b s k br :=
  ⟨{ os := h.1.os, tape := h.1.tape, output := h.1.output, size := by have := h.1.size; simpa using this, block := fun i hi hn => (setRow_other W r i cs fun e => by omega).trans (h.1.block i hi hn) }, Blk.same h.2 (setRow_other W r b cs hb)⟩
theorem pr_one (b : Bool) : (prv b).all (·.oneCell') = true := by simp [Value.oneCell']
theorem nu_one (n : Nat) : (nuv n).all (·.oneCell') = true := by simp [Value.oneCell']
theorem rs_one (f r : Int) : (rsv f r).all (·.oneCell') = true := by simp [Value.oneCell']
set_option maxRecDepth 100000 in
theorem closP_any (c b : Nat) (s : ByteArray) (w : World) (hc : c < 256) (h0 : s.size ≠ 0) (h : Cur w b s 1 false) :
    Calls Tryz.prog 141 #[.int .u8 (c : Int)] w fun e w' => e = .returned (.agg (prv (c % 2 == 1))) ∧ Moved w w' b s 1 false := by
  have hb : (bits .and .u8 (c : Int) 1 != 0) = (c % 2 == 1) := byte_odd ⟨c, hc⟩
  have HG := Lib.hid (Blk.new w 36 (prv false))
  have HM := Lib.hid (show Moved w (w.alloc (.cells (prv false) 36)) b s 1 false from ⟨only_alloc (.refl _ _) _, Blk.alloc h _⟩)
  have HN := Lib.hid (show b ≠ w.heap.size from Nat.ne_of_lt (Blk.lt h))
  clear h
  go_enter Tryz.func141, Tryz.ntmps141
  go_wp2_with (refine wpList_store_row rfl 36 _ _ rfl w.heap.size (prv (c % 2 == 1)) rfl rfl 36 (prv false) ?_ pr_size rfl (pr_one _) ?_; exact HG.out)
  exact bodyPost_ret (results_row1 (p := 2) rfl _ _ w.heap.size 36 (prv (c % 2 == 1)) (0, 0) _ (by kernel_rfl) (setRow_heap _ _ _ _ _ _ HG.out) Tryz.underlying36 rfl pr_size) rfl ⟨rfl, moved_row HM.out _ (Nat.le_refl _) HN.out _⟩
set_option maxRecDepth 100000 in
theorem closF_any (c g b : Nat) (s : ByteArray) (w : World) (hs : s.size ≤ 9223372036854775807) (h0 : s.size ≠ 0) (h : Cur w b s 1 false) (hg : Blk w g 177 #[.pointer (some ⟨b, 0, none⟩)]) :
    Calls Tryz.prog 144 #[.int .u8 (c : Int), .pointer (some ⟨g, 0, none⟩)] w fun e w' => ∃ n k br, e = .returned (.agg (nuv n)) ∧ Moved w w' b s k br ∧ Fin 10 s k br ∧ (fit 10 s.size = 0 → n = num s 2 8) := by
  have cg := (hg.alloc (.cells #[.int .u64 0] 38)).cell 0
  simp only [List.getElem?_toArray, List.getElem?_cons_zero] at cg
  have H1 := Lib.hid (fun w1 (h1 : Cur w1 b s 1 false) => decodeNumber_any b s w1 hs h0 h1)
  obtain ⟨w0, hw0⟩ := eqx (w.alloc (.cells #[.int .u64 0] 38))
  have HZ := Lib.hid (show Blk w0 w.heap.size 38 #[.int .u64 0] by rw [hw0]; exact Blk.new _ _ _)
  have HM := Lib.hid (show Moved w w0 b s 1 false by rw [hw0]; exact ⟨only_alloc (.refl _ _) _, Blk.alloc h _⟩)
  have HN := Lib.hid (show b ≠ w.heap.size from Nat.ne_of_lt (Blk.lt h))
  have HW := Lib.hid hw0
  clear h hg hs hw0
  go_enter Tryz.func144, Tryz.ntmps144
  go_wp2_with fail
  rw [← HW.out]
  refine (H1.out _ HM.out.2).mono ?_
  rintro e w1 ⟨n, k, br, rfl, m1, hf, hn⟩
  have HM1 := Lib.hid (HM.out.trans m1)
  have HZ1 := Lib.hid (HZ.out.grown m1.1 (by intro e; injection e with e; exact HN.out e.symm))
  have HF := Lib.hid hf
  have HG := Lib.hid hn
  clear m1 cg hf hn
  go_wp2_with (refine wpList_store_row rfl 38 _ _ rfl w.heap.size (nuv n) rfl rfl 38 #[.int .u64 0] ?_ fa_size rfl (nu_one _) ?_; exact HZ1.out)
  exact bodyPost_ret (results_row1 (p := 3) rfl _ _ w.heap.size 38 (nuv n) (0, 0) _ (by kernel_rfl) (setRow_heap _ _ _ _ _ _ HZ1.out) Tryz.underlying38 rfl fa_size) rfl ⟨n, k, br, rfl, moved_row HM1.out _ (Nat.le_refl _) HN.out _, HF.out, HG.out⟩
set_option maxRecDepth 100000 in
theorem closS_any (c g b : Nat) (s : ByteArray) (w : World) (hs : s.size ≤ 9223372036854775807) (h0 : s.size ≠ 0) (h : Cur w b s 1 false) (hg : Blk w g 177 #[.pointer (some ⟨b, 0, none⟩)]) :
    Calls Tryz.prog 147 #[.int .u8 (c : Int), .pointer (some ⟨g, 0, none⟩)] w fun e w' => ∃ n k br, e = .returned (.agg (nuv n)) ∧ Moved w w' b s k br ∧ Fin 10 s k br ∧ (fit 10 s.size = 0 → n = num s 2 8) := by
  have cg := (hg.alloc (.cells #[.int .u64 0] 40)).cell 0
  simp only [List.getElem?_toArray, List.getElem?_cons_zero] at cg
  have H1 := Lib.hid (fun w1 (h1 : Cur w1 b s 1 false) => decodeNumber_any b s w1 hs h0 h1)
  obtain ⟨w0, hw0⟩ := eqx (w.alloc (.cells #[.int .u64 0] 40))
  have HZ := Lib.hid (show Blk w0 w.heap.size 40 #[.int .u64 0] by rw [hw0]; exact Blk.new _ _ _)
  have HM := Lib.hid (show Moved w w0 b s 1 false by rw [hw0]; exact ⟨only_alloc (.refl _ _) _, Blk.alloc h _⟩)
  have HN := Lib.hid (show b ≠ w.heap.size from Nat.ne_of_lt (Blk.lt h))
  have HW := Lib.hid hw0
  clear h hg hs hw0
  go_enter Tryz.func147, Tryz.ntmps147
  go_wp2_with fail
  rw [← HW.out]
  refine (H1.out _ HM.out.2).mono ?_
  rintro e w1 ⟨n, k, br, rfl, m1, hf, hn⟩
  have HM1 := Lib.hid (HM.out.trans m1)
  have HZ1 := Lib.hid (HZ.out.grown m1.1 (by intro e; injection e with e; exact HN.out e.symm))
  have HF := Lib.hid hf
  have HG := Lib.hid hn
  clear m1 cg hf hn
  go_wp2_with (refine wpList_store_row rfl 40 _ _ rfl w.heap.size (nuv n) rfl rfl 40 #[.int .u64 0] ?_ fs_size rfl (nu_one _) ?_; exact HZ1.out)
  exact bodyPost_ret (results_row1 (p := 3) rfl _ _ w.heap.size 40 (nuv n) (0, 0) _ (by kernel_rfl) (setRow_heap _ _ _ _ _ _ HZ1.out) Tryz.underlying40 rfl fs_size) rfl ⟨n, k, br, rfl, moved_row HM1.out _ (Nat.le_refl _) HN.out _, HF.out, HG.out⟩
theorem conv_u8_i64 (a : Int) (n : Nat) (h : a = (n : Int)) (hn : n ≤ 255) (w : World) : (convert 5 3 (.int .u8 a)).run Tryz.prog w = .ok (.int .i64 (n : Int)) w := by
  have e : IntKind.i64.wrap a = (n : Int) := by rw [IntKind.wrap_i64]; omega
  rw [run_convert_int w 5 3 .u8 _ (by kernel_rfl) (by kernel_rfl), show Tryz.prog.intKind 3 = .i64 by kernel_rfl, e]
set_option maxRecDepth 100000 in
theorem closR_any (c g b : Nat) (s : ByteArray) (w : World) (hc : c < 256) (hs : s.size ≤ 9223372036854775807) (h0 : s.size ≠ 0) (h : Cur w b s 1 false) (hg : Blk w g 177 #[.pointer (some ⟨b, 0, none⟩)]) :
    Calls Tryz.prog 150 #[.int .u8 (c : Int), .pointer (some ⟨g, 0, none⟩)] w fun e w' => ∃ f n k br, e = .returned (.agg (rsv ((f : Nat) : Int) ((n : Nat) : Int))) ∧ Moved w w' b s k br ∧ Fin 2 s k br ∧ (fit 2 s.size = 0 → f = c % 16 ∧ n = byteAt s 1) := by
  obtain ⟨f, hf⟩ := eqx (c % 16)
  have hm : (c : Int) % 16 = (f : Int) := by omega
  have hf2 : f < 16 := by omega
  obtain ⟨p, hp⟩ := eqx (posO s 1 false (1 : Nat))
  obtain ⟨q, hq⟩ := eqx (brO s 1 false (1 : Nat))
  obtain ⟨n, hn⟩ := eqx (numO s 1 false 1)
  have hn2 : n ≤ 255 := by rw [hn]; exact numO_le_1 s 1 false
  have H1 := Lib.hid (fun w1 (h1 : Cur w1 b s 1 false) => U8_any b s 1 false w1 hs (by omega) h1)
  have HF := Lib.hid (fin_two s h0)
  have HG := Lib.hid (got_two s)
  rw [← hn, ← hp, ← hq] at H1
  rw [← hp, ← hq] at HF
  rw [← hn] at HG
  have cg := (hg.alloc (.cells (rsv 0 0) 42)).cell 0
  simp only [List.getElem?_toArray, List.getElem?_cons_zero] at cg
  obtain ⟨w0, hw0⟩ := eqx (w.alloc (.cells (rsv 0 0) 42))
  have HZ := Lib.hid (show Blk w0 w.heap.size 42 (rsv 0 0) by rw [hw0]; exact Blk.new _ _ _)
  have HM := Lib.hid (show Moved w w0 b s 1 false by rw [hw0]; exact ⟨only_alloc (.refl _ _) _, Blk.alloc h _⟩)
  have HN := Lib.hid (show b ≠ w.heap.size from Nat.ne_of_lt (Blk.lt h))
  have HF3 := Lib.hid hf
  have HN2 := Lib.hid hn2
  have hcv := fun W => conv_u8_i64 ((c : Int) % 16) f hm (by omega) W
  have hcn := fun W => conv_u8_i64 (n : Int) n rfl hn2 W
  have HW := Lib.hid hw0
  clear h hg hp hq hn hs hw0 hm hf2 hf
  go_enter Tryz.func150, Tryz.ntmps150
  go_wp2_with fail
  rw [← HW.out]
  refine (H1.out _ HM.out.2).mono ?_
  rintro e w1 ⟨rfl, m1⟩
  have HM1 := Lib.hid (HM.out.trans m1)
  have HZ1 := Lib.hid (HZ.out.grown m1.1 (by intro e; injection e with e; exact HN.out e.symm))
  clear m1 cg
  go_wp2_with (refine wpList_store_row rfl 42 _ _ rfl w.heap.size (rsv (f : Int) (n : Int)) rfl rfl 42 (rsv 0 0) ?_ rs_size rfl (rs_one _ _) ?_; exact HZ1.out)
  exact bodyPost_ret (results_row1 (p := 3) rfl _ _ w.heap.size 42 (rsv (f : Int) (n : Int)) (0, 0) _ (by kernel_rfl) (setRow_heap _ _ _ _ _ _ HZ1.out) Tryz.underlying42 rfl rs_size) rfl ⟨f, n, p, q, rfl, moved_row HM1.out _ (Nat.le_refl _) HN.out _, HF.out, fun h => ⟨HF3.out, HG.out h⟩⟩
end Go.Proofs.YtnlhhjhidkjlbaaGreatDoor.L13
namespace Go.Proofs.YtnlhhjhidkjlbaaGreatDoor.L13
open Go.ChangeShapes Go.WideShapes Go.ChangeAt Go.RowKit
set_option linter.unusedVariables false

theorem assert_errno (v : Value) (w : World) : (Instr.typeAssert (.iface 54 v) 20 54 true).run Tryz.prog w = .ok (.tuple #[v, .bool true]) w := by kernel_rfl
theorem assert_none (w : World) : (Instr.typeAssert .nilIface 20 54 true).run Tryz.prog w = .ok (.tuple #[.int .i64 0, .bool false]) w := by kernel_rfl
theorem ex_assert {P : Program} {ρ : Operand → Value} {o : Oper} {w : World} (x : Operand) (t u : TypeId) (c : Bool) (ho : o.op = .typeAssert x t u c) {v r : Value} (hx : ρ x = v) (he : (Instr.typeAssert v t u c).run P w = .ok r w) : (execOp ρ o).run P w = .ok (.value r) w := by
  unfold execOp
  rw [ho]
  simp [hx, he]
theorem errno_store (w : World) (p : Addr) (x z : Int) (hc : w.cell? p = some (.int .i64 x)) (hz : w.frozen? p = false) : (storeVar 54 p (.int .i64 z)).run Tryz.prog w = .ok () (w.setCell p (.int .i64 z)) := by
  simp [go_sem, hc, hz]
theorem errno_load (w : World) (p : Addr) (z : Int) (hc : w.cell? p = some (.int .i64 z)) : (loadVar 54 p).run Tryz.prog w = .ok (.int .i64 z) w := by
  simp [go_sem, hc]
theorem results_row_cell {P : Program} {fn : Func} {p t : Tmp} {ty ty2 : TypeId} (h : fn.results = #[.cell p ty, .cell t ty2]) (tmps : Array Value) (w : World) (g : Nat) (t' : TypeId) (cs : Array Value) (fr : Nat × Nat) (d : TypeDesc)
    (hp : tmps.getD p undef = .pointer (some ⟨g, 0, none⟩)) (hg : w.heap[g]? = some (.cells cs t' fr))
    (hu : P.underlying ty = some d) (hd : (match d with | .struct _ | .array _ _ => true | _ => false) = true) (hi : (P.info? ty).map (·.size) = some cs.size)
    (q : Nat) (v : Value) (hq : tmps.getD t undef = .pointer (some ⟨q, 0, none⟩)) (hv : (loadVar ty2 ⟨q, 0, none⟩).run P w = .ok v w) :
    (results fn tmps).run P w = .ok (.tuple #[.agg cs, v]) w := by
  have hp' : tmps[p]?.getD undef = .pointer (some ⟨g, 0, none⟩) := by simpa using hp
  have hq' : tmps[t]?.getD undef = .pointer (some ⟨q, 0, none⟩) := by simpa using hq
  simp [results, h, hp', hq', asAddr, run_loadVar_row w g t' ty cs fr d hg hu hd hi, hv]
theorem results_row_tmp {P : Program} {fn : Func} {p t : Tmp} {ty : TypeId} (h : fn.results = #[.cell p ty, .tmp t]) (tmps : Array Value) (w : World) (g : Nat) (t' : TypeId) (cs : Array Value) (fr : Nat × Nat) (d : TypeDesc)
    (hp : tmps.getD p undef = .pointer (some ⟨g, 0, none⟩)) (hg : w.heap[g]? = some (.cells cs t' fr))
    (hu : P.underlying ty = some d) (hd : (match d with | .struct _ | .array _ _ => true | _ => false) = true) (hi : (P.info? ty).map (·.size) = some cs.size) :
    (results fn tmps).run P w = .ok (.tuple #[.agg cs, tmps.getD t undef]) w := by
  have hp' : tmps[p]?.getD undef = .pointer (some ⟨g, 0, none⟩) := by simpa using hp
  simp [results, h, hp', asAddr, run_loadVar_row w g t' ty cs fr d hg hu hd hi]
/-- Where decode stands: its two results' variables, the cursor; nothing else that was there has turned. -/
structure St (b : Nat) (s : ByteArray) (r q : Nat) (T : TypeId) (zs : Array Value) (w W : World) (k : Nat) (br : Bool) : Prop where
  ret : Blk W r T zs
  err : Blk W q 54 #[.int .i64 0]
  cur : Cur W b s k br
  grown : w.grownBy W (some b)
  ne : r ≠ q
  nb : r ≠ b ∧ q ≠ b
  le : w.heap.size ≤ r ∧ w.heap.size ≤ q
namespace St
variable {b : Nat} {s : ByteArray} {r q : Nat} {T : TypeId} {zs : Array Value} {w W W' : World} {k k' : Nat} {br br' : Bool}
theorem start (w : World) (b : Nat) (s : ByteArray) (k : Nat) (br : Bool) (h : Cur w b s k br) (T : TypeId) (zs : Array Value) : St b s w.heap.size (w.heap.size + 1) T zs w ((w.alloc (.cells zs T)).alloc (.cells #[.int .i64 0] 54)) k br := by
  have hl := Blk.lt h
  refine ⟨(Blk.new w T zs).alloc _, ?_, Blk.alloc (Blk.alloc h _) _, only_alloc (only_alloc (.refl _ _) _) _, by omega, by omega, by omega⟩
  have := Blk.new (w.alloc (.cells zs T)) 54 #[.int .i64 0]
  simpa using this
theorem drewN (h : St b s r q T zs w W k br) (n : Nat) : St b s r q T zs w (W.drewN n) k br := ⟨h.ret.drewN n, h.err.drewN n, Blk.drewN h.cur n, only_drewN h.grown n, h.ne, h.nb, h.le⟩
theorem alloc (h : St b s r q T zs w W k br) (o : Obj) : St b s r q T zs w (W.alloc o) k br := ⟨h.ret.alloc o, h.err.alloc o, Blk.alloc h.cur o, only_alloc h.grown o, h.ne, h.nb, h.le⟩
theorem moved (h : St b s r q T zs w W k br) (m : Moved W W' b s k' br') : St b s r q T zs w W' k' br' :=
  ⟨h.ret.grown m.1 (by intro e; injection e with e; exact h.nb.1 e), h.err.grown m.1 (by intro e; injection e with e; exact h.nb.2 e), m.2, h.grown.trans m.1, h.ne, h.nb, h.le⟩
theorem only_new {a W : World} {b g : Nat} (h : a.grownBy W (some b)) (hg : a.heap.size ≤ g) (W' : World) (ho : W'.os = W.os) (ht : W'.tape = W.tape) (hu : W'.output = W.output) (hz : W'.heap.size = W.heap.size) (hb : ∀ i, i ≠ g → W'.heap[i]? = W.heap[i]?) : a.grownBy W' (some b) :=
  { os := ho.trans h.os, tape := ht.trans h.tape, output := hu.trans h.output, size := by rw [hz]; exact h.size, block := fun i hi hn => (hb i (by omega)).trans (h.block i hi hn) }
theorem setE (h : St b s r q T zs w W k br) (v : Value) : w.grownBy (W.setCell ⟨q, 0, none⟩ v) (some b) :=
  only_new h.grown h.le.2 _ rfl rfl rfl (by simp [World.setCell]) fun i hi => Below.heap_setCell W ⟨q, 0, none⟩ v i hi
theorem setR (h : St b s r q T zs w W k br) (cs : Array Value) : St b s r q T cs w (W.setRow r cs) k br :=
  ⟨setRow_heap _ _ _ _ _ _ h.ret, h.err.same (setRow_other W r q cs h.ne.symm), Blk.same h.cur (setRow_other W r b cs h.nb.1.symm), only_new h.grown h.le.1 _ rfl rfl rfl (by simp) fun i hi => setRow_other W r i cs hi, h.ne, h.nb, h.le⟩
end St

set_option maxHeartbeats 2000000 in
set_option maxRecDepth 100000 in
theorem catch_in (f : Nat) (hf : f = 194 ∨ f = 195 ∨ f = 196 ∨ f = 197) (p : Addr) (x z : Int) (older : List PanicEntry) (w : World) (hc : w.cell? p = some (.int .i64 x)) (hz : w.frozen? p = false) :
    CallsD Tryz.prog f #[.pointer (some p)] (.panicking ({ v := .iface 54 (.int .i64 z), recovered := false } :: older)) w fun e u' w' =>
      e = .returned (.tuple #[]) ∧ u' = .panicking ({ v := .iface 54 (.int .i64 z), recovered := true } :: older) ∧ w' = w.setCell p (.int .i64 z) := by
  rcases hf with rfl | rfl | rfl | rfl
  all_goals first | refine callsD_S Tryz.func194 rfl ⟨#[.pointer (some p), undef, undef, undef, undef, undef, undef, undef, undef, undef], []⟩ (by kernel_rfl) fun c₀ cs hu => ?_ | refine callsD_S Tryz.func195 rfl ⟨#[.pointer (some p), undef, undef, undef, undef, undef, undef, undef, undef, undef], []⟩ (by kernel_rfl) fun c₀ cs hu => ?_ | refine callsD_S Tryz.func196 rfl ⟨#[.pointer (some p), undef, undef, undef, undef, undef, undef, undef, undef, undef], []⟩ (by kernel_rfl) fun c₀ cs hu => ?_ | refine callsD_S Tryz.func197 rfl ⟨#[.pointer (some p), undef, undef, undef, undef, undef, undef, undef, undef, undef], []⟩ (by kernel_rfl) fun c₀ cs hu => ?_
  all_goals
    have hr := recoverD_in (rest := cs) hu
    apply wpS_seq
    refine region_S [0, 1, 2, 3, 4, 5, 6] (by kernel_rfl) ?_
    refine opsS_recover 0 rfl (by kernel_rfl) (by kernel_rfl) hr ?_
    refine opsS_value 1 (.tuple #[.int .i64 z, .bool true]) rfl (by kernel_rfl) (ex_assert (.tmp 4) 20 54 true (by kernel_rfl) (v := .iface 54 (.int .i64 z)) (by kernel_rfl) (assert_errno _ _)) ?_
    refine opsS_value 2 (.tuple #[.int .i64 z, .bool true]) rfl (by kernel_rfl) (by kernel_rfl) ?_
    refine opsS_value 3 (.int .i64 z) rfl (by kernel_rfl) (by kernel_rfl) ?_
    refine opsS_value 4 (.bool true) rfl (by kernel_rfl) (by kernel_rfl) ?_
    refine opsS_value 5 (.int .i64 z) rfl (by kernel_rfl) (by kernel_rfl) ?_
    refine opsS_value 6 (.bool true) rfl (by kernel_rfl) (by kernel_rfl) ?_
    refine opsS_end ⟨#[.pointer (some p), .int .i64 z, .bool true, .tuple #[.int .i64 z, .bool true], .iface 54 (.int .i64 z), .tuple #[.int .i64 z, .bool true], .int .i64 z, .bool true, undef, undef], []⟩ (by kernel_rfl) ?_
    refine wpS_seq ?_
    refine region_S [0] (by kernel_rfl) ?_
    refine opsS_value 0 (.bool true) rfl (by kernel_rfl) (by kernel_rfl) ?_
    refine opsS_end ⟨#[.pointer (some p), .int .i64 z, .bool true, .tuple #[.int .i64 z, .bool true], .iface 54 (.int .i64 z), .tuple #[.int .i64 z, .bool true], .int .i64 z, .bool true, .bool true, undef], []⟩ (by kernel_rfl) ?_
    refine wpS_cond (t := true) (by kernel_rfl) ?_
    refine region_S [0, 1] (by kernel_rfl) ?_
    refine opsS_value 0 (.int .i64 z) rfl (by kernel_rfl) (by kernel_rfl) ?_
    refine opsS_skip 1 rfl (by kernel_rfl) (ex_store_cell 54 (.tmp 0) (.tmp 9) (by kernel_rfl) p (.int .i64 z) (by kernel_rfl) (by kernel_rfl) (errno_store w p x z hc hz)) ?_
    refine opsS_end ⟨#[.pointer (some p), .int .i64 z, .bool true, .tuple #[.int .i64 z, .bool true], .iface 54 (.int .i64 z), .tuple #[.int .i64 z, .bool true], .int .i64 z, .bool true, .bool true, .int .i64 z], []⟩ (by kernel_rfl) ?_
    exact ⟨rfl, _, rfl, _, by kernel_rfl, rfl, rfl, rfl⟩
set_option maxHeartbeats 2000000 in
set_option maxRecDepth 100000 in
theorem catch_idle (f : Nat) (hf : f = 194 ∨ f = 195 ∨ f = 196 ∨ f = 197) (p : Addr) (w : World) :
    CallsD Tryz.prog f #[.pointer (some p)] .returning w fun e u' w' => e = .returned (.tuple #[]) ∧ u' = .returning ∧ w' = w := by
  rcases hf with rfl | rfl | rfl | rfl
  all_goals first | refine callsD_S Tryz.func194 rfl ⟨#[.pointer (some p), undef, undef, undef, undef, undef, undef, undef, undef, undef], []⟩ (by kernel_rfl) fun c₀ cs hu => ?_ | refine callsD_S Tryz.func195 rfl ⟨#[.pointer (some p), undef, undef, undef, undef, undef, undef, undef, undef, undef], []⟩ (by kernel_rfl) fun c₀ cs hu => ?_ | refine callsD_S Tryz.func196 rfl ⟨#[.pointer (some p), undef, undef, undef, undef, undef, undef, undef, undef, undef], []⟩ (by kernel_rfl) fun c₀ cs hu => ?_ | refine callsD_S Tryz.func197 rfl ⟨#[.pointer (some p), undef, undef, undef, undef, undef, undef, undef, undef, undef], []⟩ (by kernel_rfl) fun c₀ cs hu => ?_
  all_goals
    have hr := recoverD_idle (rest := cs) hu
    apply wpS_seq
    refine region_S [0, 1, 2, 3, 4, 5, 6] (by kernel_rfl) ?_
    refine opsS_idle 0 rfl (by kernel_rfl) (by kernel_rfl) hr ?_
    refine opsS_value 1 (.tuple #[.int .i64 0, .bool false]) rfl (by kernel_rfl) (ex_assert (.tmp 4) 20 54 true (by kernel_rfl) (v := .nilIface) (by kernel_rfl) (assert_none _)) ?_
    refine opsS_value 2 (.tuple #[.int .i64 0, .bool false]) rfl (by kernel_rfl) (by kernel_rfl) ?_
    refine opsS_value 3 (.int .i64 0) rfl (by kernel_rfl) (by kernel_rfl) ?_
    refine opsS_value 4 (.bool false) rfl (by kernel_rfl) (by kernel_rfl) ?_
    refine opsS_value 5 (.int .i64 0) rfl (by kernel_rfl) (by kernel_rfl) ?_
    refine opsS_value 6 (.bool false) rfl (by kernel_rfl) (by kernel_rfl) ?_
    refine opsS_end ⟨#[.pointer (some p), .int .i64 0, .bool false, .tuple #[.int .i64 0, .bool false], .nilIface, .tuple #[.int .i64 0, .bool false], .int .i64 0, .bool false, undef, undef], []⟩ (by kernel_rfl) ?_
    refine wpS_seq ?_
    refine region_S [0] (by kernel_rfl) ?_
    refine opsS_value 0 (.bool false) rfl (by kernel_rfl) (by kernel_rfl) ?_
    refine opsS_end ⟨#[.pointer (some p), .int .i64 0, .bool false, .tuple #[.int .i64 0, .bool false], .nilIface, .tuple #[.int .i64 0, .bool false], .int .i64 0, .bool false, .bool false, undef], []⟩ (by kernel_rfl) ?_
    refine wpS_cond (t := false) (by kernel_rfl) ?_
    refine wpS_of_wp (wp_skip ?_)
    refine ⟨rfl, .returning, ?_, _, by kernel_rfl, rfl, rfl, rfl⟩
    cases c₀
    simp_all
set_option maxRecDepth 100000 in
theorem door_panic (F : Func) (f : Nat) (hf : f = 194 ∨ f = 195 ∨ f = 196 ∨ f = 197) (T : TypeId) (zs : Array Value) (fl) (hF : F.results = #[.cell 6 T, .cell 7 54]) (hu : Tryz.prog.underlying T = some (.struct fl)) (hcs : (Tryz.prog.info? T).map (·.size) = some zs.size) (r q : Nat) (z : Int) (tmps : Array Value) (R : Ending → World → Prop) (W : World) (h6 : tmps.getD 6 undef = .pointer (some ⟨r, 0, none⟩)) (h7 : tmps.getD 7 undef = .pointer (some ⟨q, 0, none⟩)) (hr : Blk W r T zs) (he : Blk W q 54 #[.int .i64 0]) (hne : r ≠ q) (hR : R (.returned (.tuple #[.agg zs, .int .i64 z])) (W.setCell ⟨q, 0, none⟩ (.int .i64 z))) :
    bodyPostD Tryz.prog F R (Exit.panic [{ v := .iface 54 (.int .i64 z), recovered := false }]) ⟨tmps, [{ target := .fn (.func f) #[.pointer (some ⟨q, 0, none⟩)], args := #[] }]⟩ W := by
  have c0 := he.cell 0
  simp only [List.getElem?_toArray, List.getElem?_cons_zero] at c0
  show Leaves Tryz.prog F tmps R _ _ W
  refine leaves_cons (f := f) (args := #[.pointer (some ⟨q, 0, none⟩)]) (by simp) (by rcases hf with rfl | rfl | rfl | rfl <;> simp [go_sem]) ?_
  refine (catch_in f hf ⟨q, 0, none⟩ 0 z [] W c0 (he.frozen 0)).mono ?_
  rintro e u' w'' ⟨rfl, rfl, rfl⟩
  exact ⟨_, results_row_cell hF tmps _ r T zs (0, 0) _ h6 (hr.same (Below.heap_setCell W ⟨q, 0, none⟩ _ r hne)) hu rfl hcs q (.int .i64 z) h7 (errno_load _ _ z ((he.set_ 0 (.int .i64 z)).cell 0)), hR⟩
set_option maxRecDepth 100000 in
theorem door_ret (F : Func) (f : Nat) (hf : f = 194 ∨ f = 195 ∨ f = 196 ∨ f = 197) (T : TypeId) (cs : Array Value) (fl) (hF : F.results = #[.cell 6 T, .cell 7 54]) (hu : Tryz.prog.underlying T = some (.struct fl)) (hcs : (Tryz.prog.info? T).map (·.size) = some cs.size) (r q : Nat) (z : Int) (tmps : Array Value) (R : Ending → World → Prop) (W : World) (h6 : tmps.getD 6 undef = .pointer (some ⟨r, 0, none⟩)) (h7 : tmps.getD 7 undef = .pointer (some ⟨q, 0, none⟩)) (hr : Blk W r T cs) (he : Blk W q 54 #[.int .i64 z]) (hR : R (.returned (.tuple #[.agg cs, .int .i64 z])) W) :
    bodyPostD Tryz.prog F R Exit.ret ⟨tmps, [{ target := .fn (.func f) #[.pointer (some ⟨q, 0, none⟩)], args := #[] }]⟩ W := by
  have c0 := he.cell 0
  simp only [List.getElem?_toArray, List.getElem?_cons_zero] at c0
  show Leaves Tryz.prog F tmps R _ _ W
  refine leaves_cons (f := f) (args := #[.pointer (some ⟨q, 0, none⟩)]) (by simp) (by rcases hf with rfl | rfl | rfl | rfl <;> simp [go_sem]) ?_
  refine (catch_idle f hf ⟨q, 0, none⟩ W).mono ?_
  rintro e u' w'' ⟨rfl, rfl, rfl⟩
  exact ⟨_, results_row_cell hF tmps _ r T cs (0, 0) _ h6 hr hu rfl hcs q (.int .i64 z) h7 (errno_load _ _ z c0), hR⟩
/-- What 'DecodePrio' answers. -/
def decPV (s : ByteArray) : Value := .tuple #[.agg (prv (decP s)), .int .i64 (wrong 5 1 s)]
theorem decPV_no (s : ByteArray) (z : Int) (hz : wrong 5 1 s = z) (h0 : z ≠ 0) : decPV s = .tuple #[.agg (prv false), .int .i64 z] := by
  have h : ¬ wrong 5 1 s = 0 := by rw [hz]; exact h0
  unfold decPV
  rw [hz]
  unfold decP
  rw [if_neg h]
  try rfl
theorem decPV_ok (s : ByteArray) (h : wrong 5 1 s = 0) : decPV s = .tuple #[.agg (prv (byteAt s 0 % 2 == 1)), .int .i64 0] := by
  unfold decPV
  rw [h]
  unfold decP
  rw [if_pos h]
  try rfl
set_option maxHeartbeats 1000000 in
set_option maxRecDepth 100000 in
theorem decP_any (b : Nat) (s : ByteArray) (w : World) (hs : s.size ≤ 9223372036854775807) (h : Cur w b s 0 false) :
    Calls Tryz.prog 140 #[.pointer (some ⟨b, 0, none⟩), .int .u8 5, (.func (.func 141) #[] #[])] w fun e w' => e = .returned (decPV s) ∧ w.grownBy w' (some b) := by
  obtain ⟨r, hr⟩ := eqx w.heap.size
  obtain ⟨q, hq⟩ := eqx (w.heap.size + 1)
  obtain ⟨w0, hw0⟩ := eqx ((w.alloc (.cells (prv false) 36)).alloc (.cells #[.int .i64 0] 54))
  have st : St b s r q 36 (prv false) w w0 0 false := by rw [hw0, hr, hq]; exact St.start w b s 0 false h 36 (prv false)
  obtain ⟨m, hm⟩ := eqx s.size
  have HL := Lib.hid (show leftO s 0 false = (m : Int) by unfold leftO; rw [if_neg (by decide), hm]; omega)
  obtain ⟨c, hc⟩ := eqx (byteAt s 0)
  have HC2 := Lib.hid (show c < 256 by rw [hc]; exact byteAt_lt s 0)
  obtain ⟨z, hzz⟩ := eqx (fit 1 s.size)
  have HS := Lib.hid hs
  have HST := Lib.hid st
  have HR := Lib.hid hr
  have HQ := Lib.hid hq
  have HW := Lib.hid hw0
  have HM := Lib.hid hm
  have HC := Lib.hid hc
  have HZZ := Lib.hid hzz
  have hmf : ∀ (fn : Fn) (first cap : Array Value) (w : World), (Instr.makeFunc fn first cap).run Tryz.prog w = .ok (.func fn first cap) w := fun _ _ _ _ => rfl
  clear h hr hq hw0 st hs hm hc hzz
  go_enter_defers Tryz.func140, Tryz.ntmps140
  go_wp2_with fail
  rw [← HW.out, ← HQ.out, ← HR.out]
  refine (answer (LeftC_any b s 0 false w0 HS.out (Nat.zero_le _) HST.out.cur) (congrArg (Value.int .i64) HL.out)).mono ?_
  rintro e W1 ⟨rfl, n1, rfl⟩
  have HST1 := Lib.hid (HST.out.drewN n1)
  by_cases hm0 : (m : Int) = 0
  · go_wp2_with fail
    rw [decPV_no s 4 (wrong_0 _ _ s (by have := HM.out; omega)) (by decide)]
    exact door_panic _ _ (by decide) 36 (prv false) _ rfl Tryz.underlying36 pr_size r q 4 _ _ _ (by kernel_rfl) (by kernel_rfl) HST1.out.ret HST1.out.err HST1.out.ne ⟨rfl, HST1.out.setE _⟩
  have H0 := Lib.hid (show s.size ≠ 0 by have := HM.out; omega)
  have h1 := U8_first b s _ HS.out H0.out HST1.out.cur
  rw [← HC.out] at h1
  have H1 := Lib.hid h1
  clear h1
  go_wp2_with fail
  refine H1.out.mono ?_
  rintro e W2 ⟨rfl, m2⟩
  have HST2 := Lib.hid (HST1.out.moved m2)
  clear m2
  by_cases hq7 : ¬ (c : Int) / 16 % 256 = 5
  · go_wp2_with fail
    rw [decPV_no s 7 (wrong_7 _ _ s H0.out (by rw [← HC.out]; have := HC2.out; omega)) (by decide)]
    exact door_panic _ _ (by decide) 36 (prv false) _ rfl Tryz.underlying36 pr_size r q 7 _ _ _ (by kernel_rfl) (by kernel_rfl) HST2.out.ret HST2.out.err HST2.out.ne ⟨rfl, HST2.out.setE _⟩
  have HK := Lib.hid (show byteAt s 0 / 16 = 5 by rw [← HC.out]; have := HC2.out; omega)
  have hq8 : (c : Int) / 16 % 256 = 5 := Classical.not_not.1 hq7
  clear hq7
  go_wp2_with fail
  refine (closP_any c b s _ HC2.out H0.out HST2.out.cur).mono ?_
  rintro e W3 ⟨rfl, m3⟩
  have HST3 := Lib.hid (HST2.out.moved m3)
  clear m3
  have HF := Lib.hid (fin_one s H0.out)
  obtain ⟨X, hX⟩ := eqx W3.heap.size
  obtain ⟨W4, hW4⟩ := eqx (W3.alloc (.cells (prv (c % 2 == 1)) 36))
  have HST4 := Lib.hid (show St b s r q 36 (prv false) w W4 1 false by rw [hW4]; exact HST3.out.alloc _)
  have HX4 := Lib.hid (show Blk W4 X 36 (prv (c % 2 == 1)) by rw [hW4, hX]; exact Blk.new _ _ _)
  have HXX := Lib.hid hX
  have HW4 := Lib.hid hW4
  clear hX hW4
  go_wp2_with fail
  rw [← HW4.out, ← HXX.out]
  refine (answer (End_any b s 1 false W4 HS.out HF.out.1 HST4.out.cur) (congrArg (Value.int .i64) (HF.out.2.trans HZZ.out.symm))).mono ?_
  rintro e W5 ⟨rfl, n5, rfl⟩
  have HST5 := Lib.hid (HST4.out.drewN n5)
  by_cases hz1 : ¬ z = 0
  · go_wp2_with fail
    rw [decPV_no s z ((wrong_in _ _ s H0.out HK.out).trans HZZ.out.symm) hz1]
    exact door_panic _ _ (by decide) 36 (prv false) _ rfl Tryz.underlying36 pr_size r q z _ _ _ (by kernel_rfl) (by kernel_rfl) HST5.out.ret HST5.out.err HST5.out.ne ⟨rfl, HST5.out.setE _⟩
  have hz0 : z = 0 := Classical.not_not.1 hz1
  clear hz1
  have HX5 := Lib.hid (HX4.out.drewN n5)
  have st6 := HST5.out.setR (prv (c % 2 == 1))
  have HST6 := Lib.hid st6
  have c0 := st6.err.cell 0
  have f0 := st6.err.frozen 0
  simp only [List.getElem?_toArray, List.getElem?_cons_zero] at c0
  clear st6
  go_wp2_with (first | (refine wpList_load_row rfl 36 _ rfl X rfl 36 (prv (c % 2 == 1)) (0, 0) _ ?_ Tryz.underlying36 rfl pr_size ?_; exact HX5.out) | (refine wpList_store_row rfl 36 _ _ rfl r (prv (c % 2 == 1)) rfl rfl 36 (prv false) ?_ pr_size rfl (pr_one _) ?_; exact HST5.out.ret))
  refine door_ret _ _ (by decide) 36 (prv (c % 2 == 1)) _ rfl Tryz.underlying36 pr_size r q 0 _ _ _ (by kernel_rfl) (by kernel_rfl) (HST6.out.ret.same (Below.heap_setCell _ ⟨q, 0, none⟩ _ r HST6.out.ne)) (HST6.out.err.set_ 0 (.int .i64 0)) ⟨?_, HST6.out.setE _⟩
  have hz : fit 1 s.size = 0 := HZZ.out.symm.trans hz0
  rw [decPV_ok s ((wrong_in _ _ s H0.out HK.out).trans hz)]
  rw [HC.out]
set_option maxHeartbeats 1000000 in
set_option maxRecDepth 100000 in
theorem DecodePrio_any (s : ByteArray) (hs : s.size ≤ 9223372036854775807) (w : World) :
    Calls Tryz.prog 76 #[.string s] w fun e w' => e = .returned (decPV s) ∧ Below w.heap.size w w' := by
  obtain ⟨P, hP⟩ := eqx (decP s)
  obtain ⟨z, hz⟩ := eqx (wrong 5 1 s)
  have HV := Lib.hid (show decPV s = .tuple #[.agg (prv P), .int .i64 z] by rw [hP, hz]; rfl)
  obtain ⟨r, hr⟩ := eqx w.heap.size
  obtain ⟨w0, hw0⟩ := eqx (w.alloc (.cells (prv false) 36))
  have HZ0 := Lib.hid (show Blk w0 r 36 (prv false) by rw [hw0, hr]; exact Blk.new _ _ _)
  have HB0 := Lib.hid (bel0 hw0)
  have HS := Lib.hid hs
  have HR := Lib.hid hr
  have HW := Lib.hid hw0
  have hmf : ∀ (fn : Fn) (first cap : Array Value) (w : World), (Instr.makeFunc fn first cap).run Tryz.prog w = .ok (.func fn first cap) w := fun _ _ _ _ => rfl
  clear hs hP hz hr hw0
  go_enter Tryz.func76, Tryz.ntmps76
  go_wp2_with fail
  rw [← HW.out, ← HR.out]
  refine (Read_new s w0).mono ?_
  rintro e w1 ⟨b, rfl, hb, b1, hc⟩
  have HC1 := Lib.hid hc
  have HBL := Lib.hid (show w.heap.size ≤ b from Nat.le_trans HB0.out.size hb)
  have HRB := Lib.hid (show r ≠ b from Nat.ne_of_lt (Nat.lt_of_lt_of_le HZ0.out.lt hb))
  have HZ1 := Lib.hid (HZ0.out.below b1 HZ0.out.lt)
  have HB1 := Lib.hid (HB0.out.trans (b1.mono HB0.out.size))
  clear hc hb b1
  go_wp2_with fail
  refine (decP_any b s w1 HS.out HC1.out).mono ?_
  rintro e W ⟨rfl, hgr⟩
  rw [HV.out]
  have HZ3 := Lib.hid (HZ1.out.grown hgr (by intro e; injection e with e; exact HRB.out e))
  have HB3 := Lib.hid (HB1.out.trans (below_of_only hgr HBL.out HB1.out.size))
  clear hgr
  go_wp2_with (refine wpList_store_row rfl 36 _ _ rfl r (prv P) rfl rfl 36 (prv false) ?_ pr_size rfl (pr_one _) ?_; exact HZ3.out)
  exact bodyPost_ret (results_row_tmp (p := 2) (t := 3) rfl _ _ r 36 (prv P) (0, 0) _ (by kernel_rfl) (setRow_heap _ _ _ _ _ _ HZ3.out) Tryz.underlying36 rfl pr_size) rfl ⟨by rw [HV.out]; rfl, below_setRow HB3.out (by rw [HR.out]; exact Nat.le_refl _) _⟩
/-- What 'DecodeFail' answers. -/
def decFV (s : ByteArray) : Value := .tuple #[.agg (nuv (decN 6 s)), .int .i64 (wrong 6 10 s)]
theorem decFV_no (s : ByteArray) (z : Int) (hz : wrong 6 10 s = z) (h0 : z ≠ 0) : decFV s = .tuple #[.agg #[.int .u64 0], .int .i64 z] := by
  have h : ¬ wrong 6 10 s = 0 := by rw [hz]; exact h0
  unfold decFV
  rw [hz]
  unfold decN
  rw [if_neg h]
  try rfl
theorem decFV_ok (s : ByteArray) (h : wrong 6 10 s = 0) : decFV s = .tuple #[.agg (nuv (num s 2 8)), .int .i64 0] := by
  unfold decFV
  rw [h]
  unfold decN
  rw [if_pos h]
  try rfl
set_option maxHeartbeats 1000000 in
set_option maxRecDepth 100000 in
theorem decF_any (b g : Nat) (s : ByteArray) (w : World) (hs : s.size ≤ 9223372036854775807) (h : Cur w b s 0 false) (hg : Blk w g 177 #[.pointer (some ⟨b, 0, none⟩)]) :
    Calls Tryz.prog 143 #[.pointer (some ⟨b, 0, none⟩), .int .u8 6, (.func (.func 144) #[] #[.pointer (some ⟨g, 0, none⟩)])] w fun e w' => e = .returned (decFV s) ∧ w.grownBy w' (some b) := by
  obtain ⟨r, hr⟩ := eqx w.heap.size
  obtain ⟨q, hq⟩ := eqx (w.heap.size + 1)
  obtain ⟨w0, hw0⟩ := eqx ((w.alloc (.cells #[.int .u64 0] 38)).alloc (.cells #[.int .i64 0] 54))
  have st : St b s r q 38 #[.int .u64 0] w w0 0 false := by rw [hw0, hr, hq]; exact St.start w b s 0 false h 38 #[.int .u64 0]
  obtain ⟨m, hm⟩ := eqx s.size
  have HL := Lib.hid (show leftO s 0 false = (m : Int) by unfold leftO; rw [if_neg (by decide), hm]; omega)
  obtain ⟨c, hc⟩ := eqx (byteAt s 0)
  have HC2 := Lib.hid (show c < 256 by rw [hc]; exact byteAt_lt s 0)
  obtain ⟨z, hzz⟩ := eqx (fit 10 s.size)
  have HG0 := Lib.hid (show Blk w0 g 177 #[.pointer (some ⟨b, 0, none⟩)] by rw [hw0]; exact (hg.alloc _).alloc _)
  have HGB := Lib.hid (show g ≠ b from hg.ne_ h (by decide))
  have HS := Lib.hid hs
  have HST := Lib.hid st
  have HR := Lib.hid hr
  have HQ := Lib.hid hq
  have HW := Lib.hid hw0
  have HM := Lib.hid hm
  have HC := Lib.hid hc
  have HZZ := Lib.hid hzz
  have hmf : ∀ (fn : Fn) (first cap : Array Value) (w : World), (Instr.makeFunc fn first cap).run Tryz.prog w = .ok (.func fn first cap) w := fun _ _ _ _ => rfl
  clear h hr hq hw0 st hs hm hc hzz hg
  go_enter_defers Tryz.func143, Tryz.ntmps143
  go_wp2_with fail
  rw [← HW.out, ← HQ.out, ← HR.out]
  refine (answer (LeftC_any b s 0 false w0 HS.out (Nat.zero_le _) HST.out.cur) (congrArg (Value.int .i64) HL.out)).mono ?_
  rintro e W1 ⟨rfl, n1, rfl⟩
  have HST1 := Lib.hid (HST.out.drewN n1)
  by_cases hm0 : (m : Int) = 0
  · go_wp2_with fail
    rw [decFV_no s 4 (wrong_0 _ _ s (by have := HM.out; omega)) (by decide)]
    exact door_panic _ _ (by decide) 38 #[.int .u64 0] _ rfl Tryz.underlying38 fa_size r q 4 _ _ _ (by kernel_rfl) (by kernel_rfl) HST1.out.ret HST1.out.err HST1.out.ne ⟨rfl, HST1.out.setE _⟩
  have H0 := Lib.hid (show s.size ≠ 0 by have := HM.out; omega)
  have h1 := U8_first b s _ HS.out H0.out HST1.out.cur
  rw [← HC.out] at h1
  have H1 := Lib.hid h1
  clear h1
  go_wp2_with fail
  refine H1.out.mono ?_
  rintro e W2 ⟨rfl, m2⟩
  have HST2 := Lib.hid (HST1.out.moved m2)
  have HG2 := Lib.hid (show Blk W2 g 177 #[.pointer (some ⟨b, 0, none⟩)] from (Blk.drewN HG0.out n1).grown m2.1 (by intro e; injection e with e; exact HGB.out e))
  clear m2
  by_cases hq7 : ¬ (c : Int) / 16 % 256 = 6
  · go_wp2_with fail
    rw [decFV_no s 7 (wrong_7 _ _ s H0.out (by rw [← HC.out]; have := HC2.out; omega)) (by decide)]
    exact door_panic _ _ (by decide) 38 #[.int .u64 0] _ rfl Tryz.underlying38 fa_size r q 7 _ _ _ (by kernel_rfl) (by kernel_rfl) HST2.out.ret HST2.out.err HST2.out.ne ⟨rfl, HST2.out.setE _⟩
  have HK := Lib.hid (show byteAt s 0 / 16 = 6 by rw [← HC.out]; have := HC2.out; omega)
  have hq8 : (c : Int) / 16 % 256 = 6 := Classical.not_not.1 hq7
  clear hq7
  go_wp2_with fail
  refine (closF_any c g b s _ HS.out H0.out HST2.out.cur HG2.out).mono ?_
  rintro e W3 ⟨n, k, br, rfl, m3, hf, hn⟩
  have HST3 := Lib.hid (HST2.out.moved m3)
  clear m3
  have HF := Lib.hid hf
  have HN := Lib.hid hn
  clear hf hn
  obtain ⟨X, hX⟩ := eqx W3.heap.size
  obtain ⟨W4, hW4⟩ := eqx (W3.alloc (.cells (nuv n) 38))
  have HST4 := Lib.hid (show St b s r q 38 #[.int .u64 0] w W4 k br by rw [hW4]; exact HST3.out.alloc _)
  have HX4 := Lib.hid (show Blk W4 X 38 (nuv n) by rw [hW4, hX]; exact Blk.new _ _ _)
  have HXX := Lib.hid hX
  have HW4 := Lib.hid hW4
  clear hX hW4
  go_wp2_with fail
  rw [← HW4.out, ← HXX.out]
  refine (answer (End_any b s k br W4 HS.out HF.out.1 HST4.out.cur) (congrArg (Value.int .i64) (HF.out.2.trans HZZ.out.symm))).mono ?_
  rintro e W5 ⟨rfl, n5, rfl⟩
  have HST5 := Lib.hid (HST4.out.drewN n5)
  by_cases hz1 : ¬ z = 0
  · go_wp2_with fail
    rw [decFV_no s z ((wrong_in _ _ s H0.out HK.out).trans HZZ.out.symm) hz1]
    exact door_panic _ _ (by decide) 38 #[.int .u64 0] _ rfl Tryz.underlying38 fa_size r q z _ _ _ (by kernel_rfl) (by kernel_rfl) HST5.out.ret HST5.out.err HST5.out.ne ⟨rfl, HST5.out.setE _⟩
  have hz0 : z = 0 := Classical.not_not.1 hz1
  clear hz1
  have HX5 := Lib.hid (HX4.out.drewN n5)
  have st6 := HST5.out.setR (nuv n)
  have HST6 := Lib.hid st6
  have c0 := st6.err.cell 0
  have f0 := st6.err.frozen 0
  simp only [List.getElem?_toArray, List.getElem?_cons_zero] at c0
  clear st6
  go_wp2_with (first | (refine wpList_load_row rfl 38 _ rfl X rfl 38 (nuv n) (0, 0) _ ?_ Tryz.underlying38 rfl fa_size ?_; exact HX5.out) | (refine wpList_store_row rfl 38 _ _ rfl r (nuv n) rfl rfl 38 #[.int .u64 0] ?_ fa_size rfl (nu_one _) ?_; exact HST5.out.ret))
  refine door_ret _ _ (by decide) 38 (nuv n) _ rfl Tryz.underlying38 fa_size r q 0 _ _ _ (by kernel_rfl) (by kernel_rfl) (HST6.out.ret.same (Below.heap_setCell _ ⟨q, 0, none⟩ _ r HST6.out.ne)) (HST6.out.err.set_ 0 (.int .i64 0)) ⟨?_, HST6.out.setE _⟩
  have hz : fit 10 s.size = 0 := HZZ.out.symm.trans hz0
  rw [decFV_ok s ((wrong_in _ _ s H0.out HK.out).trans hz)]
  rw [HN.out hz]
set_option maxHeartbeats 1000000 in
set_option maxRecDepth 100000 in
theorem DecodeFail_any (s : ByteArray) (hs : s.size ≤ 9223372036854775807) (w : World) :
    Calls Tryz.prog 80 #[.string s] w fun e w' => e = .returned (decFV s) ∧ Below w.heap.size w w' := by
  obtain ⟨N, hN⟩ := eqx (decN 6 s)
  obtain ⟨z, hz⟩ := eqx (wrong 6 10 s)
  have HV := Lib.hid (show decFV s = .tuple #[.agg (nuv N), .int .i64 z] by rw [hN, hz]; rfl)
  obtain ⟨r, hr⟩ := eqx w.heap.size
  obtain ⟨w0, hw0⟩ := eqx (w.alloc (.cells #[.int .u64 0] 38))
  have HZ0 := Lib.hid (show Blk w0 r 38 #[.int .u64 0] by rw [hw0, hr]; exact Blk.new _ _ _)
  have HB0 := Lib.hid (bel0 hw0)
  have HS := Lib.hid hs
  have HR := Lib.hid hr
  have HW := Lib.hid hw0
  have hmf : ∀ (fn : Fn) (first cap : Array Value) (w : World), (Instr.makeFunc fn first cap).run Tryz.prog w = .ok (.func fn first cap) w := fun _ _ _ _ => rfl
  clear hs hN hz hr hw0
  go_enter Tryz.func80, Tryz.ntmps80
  go_wp2_with fail
  rw [← HW.out, ← HR.out]
  refine (Read_new s w0).mono ?_
  rintro e w1 ⟨b, rfl, hb, b1, hc⟩
  have HC1 := Lib.hid hc
  have HBL := Lib.hid (show w.heap.size ≤ b from Nat.le_trans HB0.out.size hb)
  have HRB := Lib.hid (show r ≠ b from Nat.ne_of_lt (Nat.lt_of_lt_of_le HZ0.out.lt hb))
  have HZ1 := Lib.hid (HZ0.out.below b1 HZ0.out.lt)
  have HB1 := Lib.hid (HB0.out.trans (b1.mono HB0.out.size))
  clear hc hb b1
  obtain ⟨g, hg⟩ := eqx w1.heap.size
  obtain ⟨w2, hw2⟩ := eqx (w1.alloc (.cells #[.pointer (some ⟨b, 0, none⟩)] 177))
  have HC2 := Lib.hid (show Cur w2 b s 0 false by rw [hw2]; exact Blk.alloc HC1.out _)
  have hg2 : Blk w2 g 177 #[.pointer (some ⟨b, 0, none⟩)] := by rw [hw2, hg]; exact Blk.new _ _ _
  have HG2 := Lib.hid hg2
  have HZ2 := Lib.hid (show Blk w2 r 38 #[.int .u64 0] by rw [hw2]; exact HZ1.out.alloc _)
  have HB2 := Lib.hid (show Below w.heap.size w w2 by rw [hw2]; exact HB1.out.alloc HB1.out.size _)
  have HG := Lib.hid hg
  have HW2 := Lib.hid hw2
  have c0 := hg2.cell 0
  simp only [List.getElem?_toArray, List.getElem?_cons_zero] at c0
  rw [hw2, hg] at c0
  clear hg hw2 hg2
  go_wp2_with fail
  rw [← HW2.out, ← HG.out]
  refine (decF_any b g s w2 HS.out HC2.out HG2.out).mono ?_
  rintro e W ⟨rfl, hgr⟩
  rw [HV.out]
  have HZ3 := Lib.hid (HZ2.out.grown hgr (by intro e; injection e with e; exact HRB.out e))
  have HB3 := Lib.hid (HB2.out.trans (below_of_only hgr HBL.out HB2.out.size))
  clear hgr c0
  go_wp2_with (refine wpList_store_row rfl 38 _ _ rfl r (nuv N) rfl rfl 38 #[.int .u64 0] ?_ fa_size rfl (nu_one _) ?_; exact HZ3.out)
  exact bodyPost_ret (results_row_tmp (p := 2) (t := 3) rfl _ _ r 38 (nuv N) (0, 0) _ (by kernel_rfl) (setRow_heap _ _ _ _ _ _ HZ3.out) Tryz.underlying38 rfl fa_size) rfl ⟨by rw [HV.out]; rfl, below_setRow HB3.out (by rw [HR.out]; exact Nat.le_refl _) _⟩
/-- What 'DecodeFast' answers. -/
def decSV (s : ByteArray) : Value := .tuple #[.agg (nuv (decN 7 s)), .int .i64 (wrong 7 10 s)]
theorem decSV_no (s : ByteArray) (z : Int) (hz : wrong 7 10 s = z) (h0 : z ≠ 0) : decSV s = .tuple #[.agg #[.int .u64 0], .int .i64 z] := by
  have h : ¬ wrong 7 10 s = 0 := by rw [hz]; exact h0
  unfold decSV
  rw [hz]
  unfold decN
  rw [if_neg h]
  try rfl
theorem decSV_ok (s : ByteArray) (h : wrong 7 10 s = 0) : decSV s = .tuple #[.agg (nuv (num s 2 8)), .int .i64 0] := by
  unfold decSV
  rw [h]
  unfold decN
  rw [if_pos h]
  try rfl
set_option maxHeartbeats 1000000 in
set_option maxRecDepth 100000 in
theorem decS_any (b g : Nat) (s : ByteArray) (w : World) (hs : s.size ≤ 9223372036854775807) (h : Cur w b s 0 false) (hg : Blk w g 177 #[.pointer (some ⟨b, 0, none⟩)]) :
    Calls Tryz.prog 146 #[.pointer (some ⟨b, 0, none⟩), .int .u8 7, (.func (.func 147) #[] #[.pointer (some ⟨g, 0, none⟩)])] w fun e w' => e = .returned (decSV s) ∧ w.grownBy w' (some b) := by
  obtain ⟨r, hr⟩ := eqx w.heap.size
  obtain ⟨q, hq⟩ := eqx (w.heap.size + 1)
  obtain ⟨w0, hw0⟩ := eqx ((w.alloc (.cells #[.int .u64 0] 40)).alloc (.cells #[.int .i64 0] 54))
  have st : St b s r q 40 #[.int .u64 0] w w0 0 false := by rw [hw0, hr, hq]; exact St.start w b s 0 false h 40 #[.int .u64 0]
  obtain ⟨m, hm⟩ := eqx s.size
  have HL := Lib.hid (show leftO s 0 false = (m : Int) by unfold leftO; rw [if_neg (by decide), hm]; omega)
  obtain ⟨c, hc⟩ := eqx (byteAt s 0)
  have HC2 := Lib.hid (show c < 256 by rw [hc]; exact byteAt_lt s 0)
  obtain ⟨z, hzz⟩ := eqx (fit 10 s.size)
  have HG0 := Lib.hid (show Blk w0 g 177 #[.pointer (some ⟨b, 0, none⟩)] by rw [hw0]; exact (hg.alloc _).alloc _)
  have HGB := Lib.hid (show g ≠ b from hg.ne_ h (by decide))
  have HS := Lib.hid hs
  have HST := Lib.hid st
  have HR := Lib.hid hr
  have HQ := Lib.hid hq
  have HW := Lib.hid hw0
  have HM := Lib.hid hm
  have HC := Lib.hid hc
  have HZZ := Lib.hid hzz
  have hmf : ∀ (fn : Fn) (first cap : Array Value) (w : World), (Instr.makeFunc fn first cap).run Tryz.prog w = .ok (.func fn first cap) w := fun _ _ _ _ => rfl
  clear h hr hq hw0 st hs hm hc hzz hg
  go_enter_defers Tryz.func146, Tryz.ntmps146
  go_wp2_with fail
  rw [← HW.out, ← HQ.out, ← HR.out]
  refine (answer (LeftC_any b s 0 false w0 HS.out (Nat.zero_le _) HST.out.cur) (congrArg (Value.int .i64) HL.out)).mono ?_
  rintro e W1 ⟨rfl, n1, rfl⟩
  have HST1 := Lib.hid (HST.out.drewN n1)
  by_cases hm0 : (m : Int) = 0
  · go_wp2_with fail
    rw [decSV_no s 4 (wrong_0 _ _ s (by have := HM.out; omega)) (by decide)]
    exact door_panic _ _ (by decide) 40 #[.int .u64 0] _ rfl Tryz.underlying40 fs_size r q 4 _ _ _ (by kernel_rfl) (by kernel_rfl) HST1.out.ret HST1.out.err HST1.out.ne ⟨rfl, HST1.out.setE _⟩
  have H0 := Lib.hid (show s.size ≠ 0 by have := HM.out; omega)
  have h1 := U8_first b s _ HS.out H0.out HST1.out.cur
  rw [← HC.out] at h1
  have H1 := Lib.hid h1
  clear h1
  go_wp2_with fail
  refine H1.out.mono ?_
  rintro e W2 ⟨rfl, m2⟩
  have HST2 := Lib.hid (HST1.out.moved m2)
  have HG2 := Lib.hid (show Blk W2 g 177 #[.pointer (some ⟨b, 0, none⟩)] from (Blk.drewN HG0.out n1).grown m2.1 (by intro e; injection e with e; exact HGB.out e))
  clear m2
  by_cases hq7 : ¬ (c : Int) / 16 % 256 = 7
  · go_wp2_with fail
    rw [decSV_no s 7 (wrong_7 _ _ s H0.out (by rw [← HC.out]; have := HC2.out; omega)) (by decide)]
    exact door_panic _ _ (by decide) 40 #[.int .u64 0] _ rfl Tryz.underlying40 fs_size r q 7 _ _ _ (by kernel_rfl) (by kernel_rfl) HST2.out.ret HST2.out.err HST2.out.ne ⟨rfl, HST2.out.setE _⟩
  have HK := Lib.hid (show byteAt s 0 / 16 = 7 by rw [← HC.out]; have := HC2.out; omega)
  have hq8 : (c : Int) / 16 % 256 = 7 := Classical.not_not.1 hq7
  clear hq7
  go_wp2_with fail
  refine (closS_any c g b s _ HS.out H0.out HST2.out.cur HG2.out).mono ?_
  rintro e W3 ⟨n, k, br, rfl, m3, hf, hn⟩
  have HST3 := Lib.hid (HST2.out.moved m3)
  clear m3
  have HF := Lib.hid hf
  have HN := Lib.hid hn
  clear hf hn
  obtain ⟨X, hX⟩ := eqx W3.heap.size
  obtain ⟨W4, hW4⟩ := eqx (W3.alloc (.cells (nuv n) 40))
  have HST4 := Lib.hid (show St b s r q 40 #[.int .u64 0] w W4 k br by rw [hW4]; exact HST3.out.alloc _)
  have HX4 := Lib.hid (show Blk W4 X 40 (nuv n) by rw [hW4, hX]; exact Blk.new _ _ _)
  have HXX := Lib.hid hX
  have HW4 := Lib.hid hW4
  clear hX hW4
  go_wp2_with fail
  rw [← HW4.out, ← HXX.out]
  refine (answer (End_any b s k br W4 HS.out HF.out.1 HST4.out.cur) (congrArg (Value.int .i64) (HF.out.2.trans HZZ.out.symm))).mono ?_
  rintro e W5 ⟨rfl, n5, rfl⟩
  have HST5 := Lib.hid (HST4.out.drewN n5)
  by_cases hz1 : ¬ z = 0
  · go_wp2_with fail
    rw [decSV_no s z ((wrong_in _ _ s H0.out HK.out).trans HZZ.out.symm) hz1]
    exact door_panic _ _ (by decide) 40 #[.int .u64 0] _ rfl Tryz.underlying40 fs_size r q z _ _ _ (by kernel_rfl) (by kernel_rfl) HST5.out.ret HST5.out.err HST5.out.ne ⟨rfl, HST5.out.setE _⟩
  have hz0 : z = 0 := Classical.not_not.1 hz1
  clear hz1
  have HX5 := Lib.hid (HX4.out.drewN n5)
  have st6 := HST5.out.setR (nuv n)
  have HST6 := Lib.hid st6
  have c0 := st6.err.cell 0
  have f0 := st6.err.frozen 0
  simp only [List.getElem?_toArray, List.getElem?_cons_zero] at c0
  clear st6
  go_wp2_with (first | (refine wpList_load_row rfl 40 _ rfl X rfl 40 (nuv n) (0, 0) _ ?_ Tryz.underlying40 rfl fs_size ?_; exact HX5.out) | (refine wpList_store_row rfl 40 _ _ rfl r (nuv n) rfl rfl 40 #[.int .u64 0] ?_ fs_size rfl (nu_one _) ?_; exact HST5.out.ret))
  refine door_ret _ _ (by decide) 40 (nuv n) _ rfl Tryz.underlying40 fs_size r q 0 _ _ _ (by kernel_rfl) (by kernel_rfl) (HST6.out.ret.same (Below.heap_setCell _ ⟨q, 0, none⟩ _ r HST6.out.ne)) (HST6.out.err.set_ 0 (.int .i64 0)) ⟨?_, HST6.out.setE _⟩
  have hz : fit 10 s.size = 0 := HZZ.out.symm.trans hz0
  rw [decSV_ok s ((wrong_in _ _ s H0.out HK.out).trans hz)]
  rw [HN.out hz]
set_option maxHeartbeats 1000000 in
set_option maxRecDepth 100000 in
theorem DecodeFast_any (s : ByteArray) (hs : s.size ≤ 9223372036854775807) (w : World) :
    Calls Tryz.prog 84 #[.string s] w fun e w' => e = .returned (decSV s) ∧ Below w.heap.size w w' := by
  obtain ⟨N, hN⟩ := eqx (decN 7 s)
  obtain ⟨z, hz⟩ := eqx (wrong 7 10 s)
  have HV := Lib.hid (show decSV s = .tuple #[.agg (nuv N), .int .i64 z] by rw [hN, hz]; rfl)
  obtain ⟨r, hr⟩ := eqx w.heap.size
  obtain ⟨w0, hw0⟩ := eqx (w.alloc (.cells #[.int .u64 0] 40))
  have HZ0 := Lib.hid (show Blk w0 r 40 #[.int .u64 0] by rw [hw0, hr]; exact Blk.new _ _ _)
  have HB0 := Lib.hid (bel0 hw0)
  have HS := Lib.hid hs
  have HR := Lib.hid hr
  have HW := Lib.hid hw0
  have hmf : ∀ (fn : Fn) (first cap : Array Value) (w : World), (Instr.makeFunc fn first cap).run Tryz.prog w = .ok (.func fn first cap) w := fun _ _ _ _ => rfl
  clear hs hN hz hr hw0
  go_enter Tryz.func84, Tryz.ntmps84
  go_wp2_with fail
  rw [← HW.out, ← HR.out]
  refine (Read_new s w0).mono ?_
  rintro e w1 ⟨b, rfl, hb, b1, hc⟩
  have HC1 := Lib.hid hc
  have HBL := Lib.hid (show w.heap.size ≤ b from Nat.le_trans HB0.out.size hb)
  have HRB := Lib.hid (show r ≠ b from Nat.ne_of_lt (Nat.lt_of_lt_of_le HZ0.out.lt hb))
  have HZ1 := Lib.hid (HZ0.out.below b1 HZ0.out.lt)
  have HB1 := Lib.hid (HB0.out.trans (b1.mono HB0.out.size))
  clear hc hb b1
  obtain ⟨g, hg⟩ := eqx w1.heap.size
  obtain ⟨w2, hw2⟩ := eqx (w1.alloc (.cells #[.pointer (some ⟨b, 0, none⟩)] 177))
  have HC2 := Lib.hid (show Cur w2 b s 0 false by rw [hw2]; exact Blk.alloc HC1.out _)
  have hg2 : Blk w2 g 177 #[.pointer (some ⟨b, 0, none⟩)] := by rw [hw2, hg]; exact Blk.new _ _ _
  have HG2 := Lib.hid hg2
  have HZ2 := Lib.hid (show Blk w2 r 40 #[.int .u64 0] by rw [hw2]; exact HZ1.out.alloc _)
  have HB2 := Lib.hid (show Below w.heap.size w w2 by rw [hw2]; exact HB1.out.alloc HB1.out.size _)
  have HG := Lib.hid hg
  have HW2 := Lib.hid hw2
  have c0 := hg2.cell 0
  simp only [List.getElem?_toArray, List.getElem?_cons_zero] at c0
  rw [hw2, hg] at c0
  clear hg hw2 hg2
  go_wp2_with fail
  rw [← HW2.out, ← HG.out]
  refine (decS_any b g s w2 HS.out HC2.out HG2.out).mono ?_
  rintro e W ⟨rfl, hgr⟩
  rw [HV.out]
  have HZ3 := Lib.hid (HZ2.out.grown hgr (by intro e; injection e with e; exact HRB.out e))
  have HB3 := Lib.hid (HB2.out.trans (below_of_only hgr HBL.out HB2.out.size))
  clear hgr c0
  go_wp2_with (refine wpList_store_row rfl 40 _ _ rfl r (nuv N) rfl rfl 40 #[.int .u64 0] ?_ fs_size rfl (nu_one _) ?_; exact HZ3.out)
  exact bodyPost_ret (results_row_tmp (p := 2) (t := 3) rfl _ _ r 40 (nuv N) (0, 0) _ (by kernel_rfl) (setRow_heap _ _ _ _ _ _ HZ3.out) Tryz.underlying40 rfl fs_size) rfl ⟨by rw [HV.out]; rfl, below_setRow HB3.out (by rw [HR.out]; exact Nat.le_refl _) _⟩
/-- What 'DecodeRst' answers. -/
def decRV (s : ByteArray) : Value := .tuple #[.agg (rsv (decF s : Int) (decR s : Int)), .int .i64 (wrong 8 2 s)]
theorem decRV_no (s : ByteArray) (z : Int) (hz : wrong 8 2 s = z) (h0 : z ≠ 0) : decRV s = .tuple #[.agg (rsv 0 0), .int .i64 z] := by
  have h : ¬ wrong 8 2 s = 0 := by rw [hz]; exact h0
  unfold decRV
  rw [hz]
  unfold decF decR
  rw [if_neg h, if_neg h]
  try rfl
theorem decRV_ok (s : ByteArray) (h : wrong 8 2 s = 0) : decRV s = .tuple #[.agg (rsv ((byteAt s 0 % 16 : Nat) : Int) (byteAt s 1 : Int)), .int .i64 0] := by
  unfold decRV
  rw [h]
  unfold decF decR
  rw [if_pos h, if_pos h]
  try rfl
set_option maxHeartbeats 1000000 in
set_option maxRecDepth 100000 in
theorem decR_any (b g : Nat) (s : ByteArray) (w : World) (hs : s.size ≤ 9223372036854775807) (h : Cur w b s 0 false) (hg : Blk w g 177 #[.pointer (some ⟨b, 0, none⟩)]) :
    Calls Tryz.prog 149 #[.pointer (some ⟨b, 0, none⟩), .int .u8 8, (.func (.func 150) #[] #[.pointer (some ⟨g, 0, none⟩)])] w fun e w' => e = .returned (decRV s) ∧ w.grownBy w' (some b) := by
  obtain ⟨r, hr⟩ := eqx w.heap.size
  obtain ⟨q, hq⟩ := eqx (w.heap.size + 1)
  obtain ⟨w0, hw0⟩ := eqx ((w.alloc (.cells (rsv 0 0) 42)).alloc (.cells #[.int .i64 0] 54))
  have st : St b s r q 42 (rsv 0 0) w w0 0 false := by rw [hw0, hr, hq]; exact St.start w b s 0 false h 42 (rsv 0 0)
  obtain ⟨m, hm⟩ := eqx s.size
  have HL := Lib.hid (show leftO s 0 false = (m : Int) by unfold leftO; rw [if_neg (by decide), hm]; omega)
  obtain ⟨c, hc⟩ := eqx (byteAt s 0)
  have HC2 := Lib.hid (show c < 256 by rw [hc]; exact byteAt_lt s 0)
  obtain ⟨z, hzz⟩ := eqx (fit 2 s.size)
  have HG0 := Lib.hid (show Blk w0 g 177 #[.pointer (some ⟨b, 0, none⟩)] by rw [hw0]; exact (hg.alloc _).alloc _)
  have HGB := Lib.hid (show g ≠ b from hg.ne_ h (by decide))
  have HS := Lib.hid hs
  have HST := Lib.hid st
  have HR := Lib.hid hr
  have HQ := Lib.hid hq
  have HW := Lib.hid hw0
  have HM := Lib.hid hm
  have HC := Lib.hid hc
  have HZZ := Lib.hid hzz
  have hmf : ∀ (fn : Fn) (first cap : Array Value) (w : World), (Instr.makeFunc fn first cap).run Tryz.prog w = .ok (.func fn first cap) w := fun _ _ _ _ => rfl
  clear h hr hq hw0 st hs hm hc hzz hg
  go_enter_defers Tryz.func149, Tryz.ntmps149
  go_wp2_with fail
  rw [← HW.out, ← HQ.out, ← HR.out]
  refine (answer (LeftC_any b s 0 false w0 HS.out (Nat.zero_le _) HST.out.cur) (congrArg (Value.int .i64) HL.out)).mono ?_
  rintro e W1 ⟨rfl, n1, rfl⟩
  have HST1 := Lib.hid (HST.out.drewN n1)
  by_cases hm0 : (m : Int) = 0
  · go_wp2_with fail
    rw [decRV_no s 4 (wrong_0 _ _ s (by have := HM.out; omega)) (by decide)]
    exact door_panic _ _ (by decide) 42 (rsv 0 0) _ rfl Tryz.underlying42 rs_size r q 4 _ _ _ (by kernel_rfl) (by kernel_rfl) HST1.out.ret HST1.out.err HST1.out.ne ⟨rfl, HST1.out.setE _⟩
  have H0 := Lib.hid (show s.size ≠ 0 by have := HM.out; omega)
  have h1 := U8_first b s _ HS.out H0.out HST1.out.cur
  rw [← HC.out] at h1
  have H1 := Lib.hid h1
  clear h1
  go_wp2_with fail
  refine H1.out.mono ?_
  rintro e W2 ⟨rfl, m2⟩
  have HST2 := Lib.hid (HST1.out.moved m2)
  have HG2 := Lib.hid (show Blk W2 g 177 #[.pointer (some ⟨b, 0, none⟩)] from (Blk.drewN HG0.out n1).grown m2.1 (by intro e; injection e with e; exact HGB.out e))
  clear m2
  by_cases hq7 : ¬ (c : Int) / 16 % 256 = 8
  · go_wp2_with fail
    rw [decRV_no s 7 (wrong_7 _ _ s H0.out (by rw [← HC.out]; have := HC2.out; omega)) (by decide)]
    exact door_panic _ _ (by decide) 42 (rsv 0 0) _ rfl Tryz.underlying42 rs_size r q 7 _ _ _ (by kernel_rfl) (by kernel_rfl) HST2.out.ret HST2.out.err HST2.out.ne ⟨rfl, HST2.out.setE _⟩
  have HK := Lib.hid (show byteAt s 0 / 16 = 8 by rw [← HC.out]; have := HC2.out; omega)
  have hq8 : (c : Int) / 16 % 256 = 8 := Classical.not_not.1 hq7
  clear hq7
  go_wp2_with fail
  refine (closR_any c g b s _ HC2.out HS.out H0.out HST2.out.cur HG2.out).mono ?_
  rintro e W3 ⟨f, n, k, br, rfl, m3, hf, hn⟩
  have HST3 := Lib.hid (HST2.out.moved m3)
  clear m3
  have HF := Lib.hid hf
  have HN := Lib.hid hn
  clear hf hn
  obtain ⟨X, hX⟩ := eqx W3.heap.size
  obtain ⟨W4, hW4⟩ := eqx (W3.alloc (.cells (rsv (f : Int) (n : Int)) 42))
  have HST4 := Lib.hid (show St b s r q 42 (rsv 0 0) w W4 k br by rw [hW4]; exact HST3.out.alloc _)
  have HX4 := Lib.hid (show Blk W4 X 42 (rsv (f : Int) (n : Int)) by rw [hW4, hX]; exact Blk.new _ _ _)
  have HXX := Lib.hid hX
  have HW4 := Lib.hid hW4
  clear hX hW4
  go_wp2_with fail
  rw [← HW4.out, ← HXX.out]
  refine (answer (End_any b s k br W4 HS.out HF.out.1 HST4.out.cur) (congrArg (Value.int .i64) (HF.out.2.trans HZZ.out.symm))).mono ?_
  rintro e W5 ⟨rfl, n5, rfl⟩
  have HST5 := Lib.hid (HST4.out.drewN n5)
  by_cases hz1 : ¬ z = 0
  · go_wp2_with fail
    rw [decRV_no s z ((wrong_in _ _ s H0.out HK.out).trans HZZ.out.symm) hz1]
    exact door_panic _ _ (by decide) 42 (rsv 0 0) _ rfl Tryz.underlying42 rs_size r q z _ _ _ (by kernel_rfl) (by kernel_rfl) HST5.out.ret HST5.out.err HST5.out.ne ⟨rfl, HST5.out.setE _⟩
  have hz0 : z = 0 := Classical.not_not.1 hz1
  clear hz1
  have HX5 := Lib.hid (HX4.out.drewN n5)
  have st6 := HST5.out.setR (rsv (f : Int) (n : Int))
  have HST6 := Lib.hid st6
  have c0 := st6.err.cell 0
  have f0 := st6.err.frozen 0
  simp only [List.getElem?_toArray, List.getElem?_cons_zero] at c0
  clear st6
  go_wp2_with (first | (refine wpList_load_row rfl 42 _ rfl X rfl 42 (rsv (f : Int) (n : Int)) (0, 0) _ ?_ Tryz.underlying42 rfl rs_size ?_; exact HX5.out) | (refine wpList_store_row rfl 42 _ _ rfl r (rsv (f : Int) (n : Int)) rfl rfl 42 (rsv 0 0) ?_ rs_size rfl (rs_one _ _) ?_; exact HST5.out.ret))
  refine door_ret _ _ (by decide) 42 (rsv (f : Int) (n : Int)) _ rfl Tryz.underlying42 rs_size r q 0 _ _ _ (by kernel_rfl) (by kernel_rfl) (HST6.out.ret.same (Below.heap_setCell _ ⟨q, 0, none⟩ _ r HST6.out.ne)) (HST6.out.err.set_ 0 (.int .i64 0)) ⟨?_, HST6.out.setE _⟩
  have hz : fit 2 s.size = 0 := HZZ.out.symm.trans hz0
  rw [decRV_ok s ((wrong_in _ _ s H0.out HK.out).trans hz)]
  rw [(HN.out hz).1, (HN.out hz).2, HC.out]
set_option maxHeartbeats 1000000 in
set_option maxRecDepth 100000 in
theorem DecodeRst_any (s : ByteArray) (hs : s.size ≤ 9223372036854775807) (w : World) :
    Calls Tryz.prog 88 #[.string s] w fun e w' => e = .returned (decRV s) ∧ Below w.heap.size w w' := by
  obtain ⟨F, hF⟩ := eqx (decF s)
  obtain ⟨R, hR⟩ := eqx (decR s)
  obtain ⟨z, hz⟩ := eqx (wrong 8 2 s)
  have HV := Lib.hid (show decRV s = .tuple #[.agg (rsv (F : Int) (R : Int)), .int .i64 z] by rw [hF, hR, hz]; rfl)
  obtain ⟨r, hr⟩ := eqx w.heap.size
  obtain ⟨w0, hw0⟩ := eqx (w.alloc (.cells (rsv 0 0) 42))
  have HZ0 := Lib.hid (show Blk w0 r 42 (rsv 0 0) by rw [hw0, hr]; exact Blk.new _ _ _)
  have HB0 := Lib.hid (bel0 hw0)
  have HS := Lib.hid hs
  have HR := Lib.hid hr
  have HW := Lib.hid hw0
  have hmf : ∀ (fn : Fn) (first cap : Array Value) (w : World), (Instr.makeFunc fn first cap).run Tryz.prog w = .ok (.func fn first cap) w := fun _ _ _ _ => rfl
  clear hs hF hR hz hr hw0
  go_enter Tryz.func88, Tryz.ntmps88
  go_wp2_with fail
  rw [← HW.out, ← HR.out]
  refine (Read_new s w0).mono ?_
  rintro e w1 ⟨b, rfl, hb, b1, hc⟩
  have HC1 := Lib.hid hc
  have HBL := Lib.hid (show w.heap.size ≤ b from Nat.le_trans HB0.out.size hb)
  have HRB := Lib.hid (show r ≠ b from Nat.ne_of_lt (Nat.lt_of_lt_of_le HZ0.out.lt hb))
  have HZ1 := Lib.hid (HZ0.out.below b1 HZ0.out.lt)
  have HB1 := Lib.hid (HB0.out.trans (b1.mono HB0.out.size))
  clear hc hb b1
  obtain ⟨g, hg⟩ := eqx w1.heap.size
  obtain ⟨w2, hw2⟩ := eqx (w1.alloc (.cells #[.pointer (some ⟨b, 0, none⟩)] 177))
  have HC2 := Lib.hid (show Cur w2 b s 0 false by rw [hw2]; exact Blk.alloc HC1.out _)
  have hg2 : Blk w2 g 177 #[.pointer (some ⟨b, 0, none⟩)] := by rw [hw2, hg]; exact Blk.new _ _ _
  have HG2 := Lib.hid hg2
  have HZ2 := Lib.hid (show Blk w2 r 42 (rsv 0 0) by rw [hw2]; exact HZ1.out.alloc _)
  have HB2 := Lib.hid (show Below w.heap.size w w2 by rw [hw2]; exact HB1.out.alloc HB1.out.size _)
  have HG := Lib.hid hg
  have HW2 := Lib.hid hw2
  have c0 := hg2.cell 0
  simp only [List.getElem?_toArray, List.getElem?_cons_zero] at c0
  rw [hw2, hg] at c0
  clear hg hw2 hg2
  go_wp2_with fail
  rw [← HW2.out, ← HG.out]
  refine (decR_any b g s w2 HS.out HC2.out HG2.out).mono ?_
  rintro e W ⟨rfl, hgr⟩
  rw [HV.out]
  have HZ3 := Lib.hid (HZ2.out.grown hgr (by intro e; injection e with e; exact HRB.out e))
  have HB3 := Lib.hid (HB2.out.trans (below_of_only hgr HBL.out HB2.out.size))
  clear hgr c0
  go_wp2_with (refine wpList_store_row rfl 42 _ _ rfl r (rsv (F : Int) (R : Int)) rfl rfl 42 (rsv 0 0) ?_ rs_size rfl (rs_one _ _) ?_; exact HZ3.out)
  exact bodyPost_ret (results_row_tmp (p := 2) (t := 3) rfl _ _ r 42 (rsv (F : Int) (R : Int)) (0, 0) _ (by kernel_rfl) (setRow_heap _ _ _ _ _ _ HZ3.out) Tryz.underlying42 rfl rs_size) rfl ⟨by rw [HV.out]; rfl, below_setRow HB3.out (by rw [HR.out]; exact Nat.le_refl _) _⟩
end Go.Proofs.YtnlhhjhidkjlbaaGreatDoor.L13
