/-
  Signals in memory; what the small functions of package dss answer, each by its walk: fits, owned, bitsOf.
-/
import Derived.Test.YtdhkjhkgjfcolaaDssPlain
import Derived.Test.YtdhkjhkgjfcolaaCurAny
import Derived.Test.YtdhkjhkgjfcolaaCurPuts
import Derived.Test.YtdhkjhkgjfcolaaStepOps
import Derived.Laws.Tables
import Derived.Laws.Rows
namespace Go.Proofs.Ytdhkjhkgjfcolaa
open Go.ChangeShapes Go.WideShapes Go.ChangeAt Go.RowKit
set_option linter.unusedVariables false

/-- A signal's struct, as cells. -/
abbrev dsv (x : Ds) : Array Value := #[.bool x.fin, .bool x.ha, .bool x.la, .int .u64 (x.ack : Int), .bool x.hm, .bool x.ld, .int .u64 (x.dsn : Int), .int .u32 (x.ssn : Int), .int .i64 x.len, .bool x.hs, .int .u16 (x.sum : Int)]
theorem ds_size : (Try.prog.info? 26).map (·.size) = some 11 := by kernel_rfl
theorem ds_one (x : Ds) : (dsv x).all (·.oneCell') = true := by simp [Value.oneCell']

/-! ### Two signals compared -/
def deq (x y : Ds) : Bool := x.fin == y.fin && (x.ha == y.ha && (x.la == y.la && ((x.ack : Int) == (y.ack : Int) && (x.hm == y.hm && (x.ld == y.ld && ((x.dsn : Int) == (y.dsn : Int) && ((x.ssn : Int) == (y.ssn : Int) && (x.len == y.len && (x.hs == y.hs && ((x.sum : Int) == (y.sum : Int)))))))))))
theorem deq_iff (x y : Ds) : deq x y = true ↔ x = y := by
  unfold deq
  simp only [Bool.and_eq_true, beq_iff_eq]
  constructor
  · rintro ⟨h0, h1, h2, h3, h4, h5, h6, h7, h8, h9, h10⟩
    exact Ds.ext_ h0 h1 h2 (by omega) h4 h5 (by omega) (by omega) h8 h9 (by omega)
  · rintro rfl
    exact ⟨rfl, rfl, rfl, rfl, rfl, rfl, rfl, rfl, rfl, rfl, rfl⟩
theorem deq_self (x : Ds) : deq x x = true := (deq_iff x x).2 rfl
theorem deq_ne {x y : Ds} (h : x ≠ y) : deq x y = false := by
  cases e : deq x y
  · rfl
  · exact absurd ((deq_iff x y).1 e) h
theorem and_if (a b : Bool) : (if a = true then b else false) = (a && b) := by cases a <;> rfl
set_option maxRecDepth 100000 in
theorem ds_equal (x y : Ds) (w : World) : (Op.equalIn 10000 26 (.agg (dsv x)) (.agg (dsv y))).run Try.prog w = .ok (deq x y) w := by
  rw [show (10000 : Nat) = 9999 + 1 from rfl, run_equalIn_agg (P := Try.prog) w 9999 26 _ _ (by kernel_rfl) (by kernel_rfl)]
  rw [show (9999 : Nat) = 9998 + 1 from rfl]
  simp only [Program.fieldsOf, Try.underlying26, Op.eqFields]
  simp [go_sem]
  by_cases h : x = y
  · subst h; simp [deq_self]
  · rw [deq_ne h]
    repeat' split
    all_goals first | rfl | (exfalso; apply h; apply Ds.ext_ <;> first | assumption | omega)

theorem fits_any (n : Nat) (l : Bool) (w : World) (hn : n ≤ 18446744073709551615) :
    Calls Try.prog 41 #[.int .u64 (n : Int), .bool l] w fun e w' => e = .returned (.bool (l || decide (n ≤ 4294967295))) ∧ Below w.heap.size w w' := by
  cases l
  · by_cases h : n ≤ 4294967295
    · rw [decide_eq_true h]
      have h' : (n : Int) ≤ 4294967295 := by omega
      go_enter Try.func41, Try.ntmps41
      go_wp2
      go_ret; exact ⟨rfl, Below.refl _ _⟩
    · rw [decide_eq_false h]
      have h' : ¬ (n : Int) ≤ 4294967295 := by omega
      go_enter Try.func41, Try.ntmps41
      go_wp2
      go_ret; exact ⟨rfl, Below.refl _ _⟩
  · go_enter Try.func41, Try.ntmps41
    go_wp2
    go_ret; exact ⟨rfl, Below.refl _ _⟩

theorem bare_end (x : Ds) (w : World) (cs0 cs : Array Value) {a : Act} (ht : a.tmps.getD 2 undef = .pointer (some ⟨w.heap.size + 1, 0, none⟩)) (hc : cs = dsv x.bare) (hd : a.defers = []) (hb : ∀ o1 o2 : Obj, Below w.heap.size w ((w.alloc o1).alloc o2)) :
    bodyPost Try.prog Try.f40 (fun e w' => e = .returned (.agg (dsv x.bare)) ∧ Below w.heap.size w w') .ret a ((w.alloc (.cells cs0 26)).alloc (.cells cs 26)) := by
  subst hc
  have hB : Blk ((w.alloc (.cells cs0 26)).alloc (.cells (dsv x.bare) 26)) (w.heap.size + 1) 26 (dsv x.bare) := by
    have := Blk.new (w.alloc (.cells cs0 26)) 26 (dsv x.bare)
    simpa using this
  exact bodyPost_ret (results_cell_row rfl _ _ (w.heap.size + 1) 26 (dsv x.bare) (0, 0) _ ht hB Try.underlying26 rfl ds_size) hd ⟨rfl, hb _ _⟩
set_option maxRecDepth 100000 in
theorem owned_any (x : Ds) (w : World) :
    Calls Try.prog 40 #[.agg (dsv x)] w fun e w' => e = .returned (.agg (dsv x.bare)) ∧ Below w.heap.size w w' := by
  have hb : ∀ o1 o2 : Obj, Below w.heap.size w ((w.alloc o1).alloc o2) := fun o1 o2 => ((Below.refl _ w).alloc (Nat.le_refl _) _).alloc (by simp) _
  have HB := Lib.hid hb
  clear hb
  obtain ⟨fin, ha, la, ack, hm, ld, dsn, ssn, len, hs, sum⟩ := x
  cases ha <;> cases hm <;> cases hs
  all_goals
    go_enter Try.func40, Try.ntmps40
    go_wp2_with fail
    exact bare_end _ w _ _ rfl (by simp [Ds.bare]) rfl HB.out

/-! ### The second byte -/
/-- The bits of the first j rows. -/
def bitsTo (x : Ds) (j : Nat) : Nat := (if 0 < j ∧ x.ha = true then 1 else 0) + (if 1 < j ∧ x.la = true then 2 else 0) + (if 2 < j ∧ x.hm = true then 4 else 0) + (if 3 < j ∧ x.ld = true then 8 else 0) + (if 4 < j ∧ x.fin = true then 16 else 0)
theorem bitsTo_5 (x : Ds) : bitsTo x 5 = x.bits := by simp [bitsTo, Ds.bits]
theorem bitsTo_lt (x : Ds) : bitsTo x 0 < 1 ∧ bitsTo x 1 < 2 ∧ bitsTo x 2 < 4 ∧ bitsTo x 3 < 8 ∧ bitsTo x 4 < 16 := by
  unfold bitsTo; refine ⟨?_, ?_, ?_, ?_, ?_⟩ <;> ((repeat' split) <;> omega)
theorem or_1 : ∀ n : Fin 1, bits .or .u8 (n.val : Int) 1 = ((n.val + 1 : Nat) : Int) := by decide
theorem or_2 : ∀ n : Fin 2, bits .or .u8 (n.val : Int) 2 = ((n.val + 2 : Nat) : Int) := by decide
theorem or_4 : ∀ n : Fin 4, bits .or .u8 (n.val : Int) 4 = ((n.val + 4 : Nat) : Int) := by decide
theorem or_8 : ∀ n : Fin 8, bits .or .u8 (n.val : Int) 8 = ((n.val + 8 : Nat) : Int) := by decide
theorem or_16 : ∀ n : Fin 16, bits .or .u8 (n.val : Int) 16 = ((n.val + 16 : Nat) : Int) := by decide
set_option maxHeartbeats 1000000 in
set_option maxRecDepth 100000 in
theorem bitsOf_any (x : Ds) (w : World) :
    Calls Try.prog 43 #[.agg (dsv x)] w fun e w' => e = .returned (.int .u8 (x.bits : Int)) ∧ Below w.heap.size w w' := by
  rw [← bitsTo_5]
  obtain ⟨b, hb⟩ : ∃ b, b = w.heap.size + 1 := ⟨_, rfl⟩
  obtain ⟨W, hW⟩ : ∃ W, W = (w.alloc (.cells (dsv x) 26)).alloc (.cells #[.bool x.ha, .int .u8 1, .bool x.la, .int .u8 2, .bool x.hm, .int .u8 4, .bool x.ld, .int .u8 8, .bool x.fin, .int .u8 16] 97) := ⟨_, rfl⟩
  have HL := Lib.hid (show Blk W b 97 #[.bool x.ha, .int .u8 1, .bool x.la, .int .u8 2, .bool x.hm, .int .u8 4, .bool x.ld, .int .u8 8, .bool x.fin, .int .u8 16] by
    rw [hW, hb]
    have := Blk.new (w.alloc (.cells (dsv x) 26)) 97 #[.bool x.ha, .int .u8 1, .bool x.la, .int .u8 2, .bool x.hm, .int .u8 4, .bool x.ld, .int .u8 8, .bool x.fin, .int .u8 16]
    simpa using this)
  have HBW := Lib.hid (show Below w.heap.size w W by rw [hW]; exact ((Below.refl _ w).alloc (Nat.le_refl _) _).alloc (by simp) _)
  have HWE := Lib.hid hW
  have HBE := Lib.hid hb
  clear hW hb
  go_enter Try.func43, Try.ntmps43
  go_wp2_with fail
  rw [← HWE.out, ← HBE.out]
  clear HWE HBE
  go_loopw [3, 23] (fun v i wr => ∃ j : Nat, j ≤ 5 ∧ i = .int .i64 (j : Int) ∧ v = .int .u8 (bitsTo x j : Int) ∧ Blk wr b 97 #[.bool x.ha, .int .u8 1, .bool x.la, .int .u8 2, .bool x.hm, .int .u8 4, .bool x.ld, .int .u8 8, .bool x.fin, .int .u8 16] ∧ Below w.heap.size w wr) (fun _ i _ => (5 - intOf i).toNat)
  case atStart => exact ⟨0, by omega, rfl, rfl, HL.out, HBW.out⟩
  case round =>
    obtain ⟨j, hj, rfl, rfl, hL, hB⟩ := hrel
    have HL1 := Lib.hid hL
    have HB1 := Lib.hid hB
    clear hB HL HBW
    have cases6 : j = 0 ∨ j = 1 ∨ j = 2 ∨ j = 3 ∨ j = 4 ∨ j = 5 := by omega
    clear hj
    have hlt := bitsTo_lt x
    rcases cases6 with rfl | rfl | rfl | rfl | rfl | rfl
    · obtain ⟨a, ha⟩ : ∃ a, a = bitsTo x 0 := ⟨_, rfl⟩
      have ho : bits .or .u8 (a : Int) 1 = ((a + 1 : Nat) : Int) := or_1 ⟨a, by rw [ha]; exact hlt.1⟩
      have HA := Lib.hid ha
      have c0 := hL.cell 0
      have c1 := hL.cell 1
      simp only [List.getElem?_toArray, List.getElem?_cons_zero, List.getElem?_cons_succ] at c0 c1
      rw [← ha]
      clear ha hL hlt
      by_cases hf : x.ha = true
      · rw [hf] at c0
        have HF := Lib.hid (show a + 1 = bitsTo x 1 by rw [HA.out]; simp [bitsTo, hf])
        go_wp2_with fail
        go_roundw
        case rel => exact ⟨1, by omega, by go_num, val_int (by have := HF.out; omega), HL1.out.alloc _, HB1.out.alloc HB1.out.size _⟩
        case measure => simp [intOf]
      · rw [Bool.eq_false_iff.2 hf] at c0
        have HF := Lib.hid (show a = bitsTo x 1 by rw [HA.out]; simp [bitsTo, hf])
        clear hf
        go_wp2_with fail
        go_roundw
        case rel => exact ⟨1, by omega, by go_num, val_int (by have := HF.out; omega), HL1.out.alloc _, HB1.out.alloc HB1.out.size _⟩
        case measure => simp [intOf]
    · obtain ⟨a, ha⟩ : ∃ a, a = bitsTo x 1 := ⟨_, rfl⟩
      have ho : bits .or .u8 (a : Int) 2 = ((a + 2 : Nat) : Int) := or_2 ⟨a, by rw [ha]; exact hlt.2.1⟩
      have HA := Lib.hid ha
      have c0 := hL.cell 2
      have c1 := hL.cell 3
      simp only [List.getElem?_toArray, List.getElem?_cons_zero, List.getElem?_cons_succ] at c0 c1
      rw [← ha]
      clear ha hL hlt
      by_cases hf : x.la = true
      · rw [hf] at c0
        have HF := Lib.hid (show a + 2 = bitsTo x 2 by rw [HA.out]; simp [bitsTo, hf])
        go_wp2_with fail
        go_roundw
        case rel => exact ⟨2, by omega, by go_num, val_int (by have := HF.out; omega), HL1.out.alloc _, HB1.out.alloc HB1.out.size _⟩
        case measure => simp [intOf]
      · rw [Bool.eq_false_iff.2 hf] at c0
        have HF := Lib.hid (show a = bitsTo x 2 by rw [HA.out]; simp [bitsTo, hf])
        clear hf
        go_wp2_with fail
        go_roundw
        case rel => exact ⟨2, by omega, by go_num, val_int (by have := HF.out; omega), HL1.out.alloc _, HB1.out.alloc HB1.out.size _⟩
        case measure => simp [intOf]
    · obtain ⟨a, ha⟩ : ∃ a, a = bitsTo x 2 := ⟨_, rfl⟩
      have ho : bits .or .u8 (a : Int) 4 = ((a + 4 : Nat) : Int) := or_4 ⟨a, by rw [ha]; exact hlt.2.2.1⟩
      have HA := Lib.hid ha
      have c0 := hL.cell 4
      have c1 := hL.cell 5
      simp only [List.getElem?_toArray, List.getElem?_cons_zero, List.getElem?_cons_succ] at c0 c1
      rw [← ha]
      clear ha hL hlt
      by_cases hf : x.hm = true
      · rw [hf] at c0
        have HF := Lib.hid (show a + 4 = bitsTo x 3 by rw [HA.out]; simp [bitsTo, hf])
        go_wp2_with fail
        go_roundw
        case rel => exact ⟨3, by omega, by go_num, val_int (by have := HF.out; omega), HL1.out.alloc _, HB1.out.alloc HB1.out.size _⟩
        case measure => simp [intOf]
      · rw [Bool.eq_false_iff.2 hf] at c0
        have HF := Lib.hid (show a = bitsTo x 3 by rw [HA.out]; simp [bitsTo, hf])
        clear hf
        go_wp2_with fail
        go_roundw
        case rel => exact ⟨3, by omega, by go_num, val_int (by have := HF.out; omega), HL1.out.alloc _, HB1.out.alloc HB1.out.size _⟩
        case measure => simp [intOf]
    · obtain ⟨a, ha⟩ : ∃ a, a = bitsTo x 3 := ⟨_, rfl⟩
      have ho : bits .or .u8 (a : Int) 8 = ((a + 8 : Nat) : Int) := or_8 ⟨a, by rw [ha]; exact hlt.2.2.2.1⟩
      have HA := Lib.hid ha
      have c0 := hL.cell 6
      have c1 := hL.cell 7
      simp only [List.getElem?_toArray, List.getElem?_cons_zero, List.getElem?_cons_succ] at c0 c1
      rw [← ha]
      clear ha hL hlt
      by_cases hf : x.ld = true
      · rw [hf] at c0
        have HF := Lib.hid (show a + 8 = bitsTo x 4 by rw [HA.out]; simp [bitsTo, hf])
        go_wp2_with fail
        go_roundw
        case rel => exact ⟨4, by omega, by go_num, val_int (by have := HF.out; omega), HL1.out.alloc _, HB1.out.alloc HB1.out.size _⟩
        case measure => simp [intOf]
      · rw [Bool.eq_false_iff.2 hf] at c0
        have HF := Lib.hid (show a = bitsTo x 4 by rw [HA.out]; simp [bitsTo, hf])
        clear hf
        go_wp2_with fail
        go_roundw
        case rel => exact ⟨4, by omega, by go_num, val_int (by have := HF.out; omega), HL1.out.alloc _, HB1.out.alloc HB1.out.size _⟩
        case measure => simp [intOf]
    · obtain ⟨a, ha⟩ : ∃ a, a = bitsTo x 4 := ⟨_, rfl⟩
      have ho : bits .or .u8 (a : Int) 16 = ((a + 16 : Nat) : Int) := or_16 ⟨a, by rw [ha]; exact hlt.2.2.2.2⟩
      have HA := Lib.hid ha
      have c0 := hL.cell 8
      have c1 := hL.cell 9
      simp only [List.getElem?_toArray, List.getElem?_cons_zero, List.getElem?_cons_succ] at c0 c1
      rw [← ha]
      clear ha hL hlt
      by_cases hf : x.fin = true
      · rw [hf] at c0
        have HF := Lib.hid (show a + 16 = bitsTo x 5 by rw [HA.out]; simp [bitsTo, hf])
        go_wp2_with fail
        go_roundw
        case rel => exact ⟨5, by omega, by go_num, val_int (by have := HF.out; omega), HL1.out.alloc _, HB1.out.alloc HB1.out.size _⟩
        case measure => simp [intOf]
      · rw [Bool.eq_false_iff.2 hf] at c0
        have HF := Lib.hid (show a = bitsTo x 5 by rw [HA.out]; simp [bitsTo, hf])
        clear hf
        go_wp2_with fail
        go_roundw
        case rel => exact ⟨5, by omega, by go_num, val_int (by have := HF.out; omega), HL1.out.alloc _, HB1.out.alloc HB1.out.size _⟩
        case measure => simp [intOf]
    · clear hL hlt
      go_wp2_with fail
      go_ret; exact ⟨rfl, HB1.out⟩
end Go.Proofs.Ytdhkjhkgjfcolaa
