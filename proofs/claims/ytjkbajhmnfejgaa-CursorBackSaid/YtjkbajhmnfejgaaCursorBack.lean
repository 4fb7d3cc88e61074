/-
  CursorBack returns true for all texts and rows of parts. No conditions.
-/
import Derived.Test.YtjkbajhmnfejgaaCurWorks
import Derived.Test.YtjkbajhmnfejgaaCurAny
import Derived.Test.YtjkbajhmnfejgaaCurLaid
import Derived.WalkKit
import Derived.ProofKit
import Derived.OpenShut
import Derived.ShutString
import Derived.ChangeOld
import Derived.Below
import Derived.SizedLaws
namespace Go.Proofs.Ytjkbajhmnfejgaa.cursorBack
open Go.ChangeShapes Go.WideShapes Go.ChangeAt Go.RowKit
open Go.ChangeMaps (open_string shut_string)
set_option linter.unusedVariables false

/-- What holds at the head of each round. -/
def Round (w : World) (s all : ByteArray) (Q : Nat → Int × Nat × ByteArray) (b m : Nat) (i : Value) (wr : World) : Prop :=
  ∃ j : Nat, (j ≤ m ∧ i = .int .i64 (j : Int)) ∧ Below w.heap.size w wr ∧ Cur wr b all (s.size + (cat Q j).length) false

theorem extract_front (s : ByteArray) (l : List UInt8) : (s ++ (⟨l.toArray⟩ : ByteArray)).extract 0 (0 + s.size) = s := by
  apply ByteArray.ext
  apply Array.toList_inj.1
  rw [ByteArray.data_extract, Array.toList_extract, List.extract_eq_take_drop, append_toList]
  have : s.data.toList.length = s.size := by simp
  rw [List.drop_zero, show 0 + s.size - 0 = s.data.toList.length by omega, List.take_left]


set_option maxRecDepth 100000 in
set_option maxHeartbeats 4000000 in
theorem walk_ss (s : ByteArray) (hs : s.size ≤ 140737488351232) (A : Option Addr) (len cap : Nat) (hl : len ≤ cap) (hc : cap ≤ 9223372036854775807) (Q : Nat → Int × Nat × ByteArray) (w : World) (hp : Parts w A len Q) (h1 : s.size ≤ 100) (h2 : len ≤ 30) :
    Calls Try.prog 5 #[.string s, .slice A len cap] w fun e w' => e = .returned (.bool true) ∧ Below w.heap.size w w' := by
  have HP := Lib.hid hp
  clear hp
  go_enter Try.func5, Try.ntmps5
  go_wp2_with fail
  refine (works_true _).mono ?_
  rintro e w1 ⟨rfl, B1⟩
  have HB1 := Lib.hid B1
  have HP1 := Lib.hid ((HP.out.below (B := 0) B1).front (m := len) (by omega))
  clear B1
  go_wp2_with fail
  go_quiet (fail)
  go_wp2_with fail
  refine (laid_any s (by omega) A len cap (by omega) Q _ (by exact HP1.out)).mono ?_
  rintro e w2 ⟨v, rfl, own2, B2⟩
  have HB2 := Lib.hid (HB1.out.trans ((below_drewN (Below.refl _ w1) nq).trans (B2.mono HB1.out.size)))
  obtain ⟨all, hall⟩ : ∃ all : ByteArray, all = s ++ ⟨(cat Q len).toArray⟩ := ⟨_, rfl⟩
  have has : all.size = s.size + (cat Q len).length := by rw [hall, append_size]
  have hal : all.data.toList = s.data.toList ++ cat Q len := by rw [hall, append_toList]
  have hax : all.extract 0 (0 + s.size) = s := by rw [hall]; exact extract_front _ _
  have hcl := cat_le Q len
  rw [← hall]
  have has1 : all.size ≤ 1000 := by omega
  have has2 : s.size ≤ all.size := by omega
  have HAS := Lib.hid has
  have HAL := Lib.hid hal
  have HAX := Lib.hid hax
  clear own2 B2 hall has hal hax hcl
  go_wp2_with fail
  refine (Read_new all _).mono ?_
  rintro e w3 ⟨b, rfl, hb0, B3, C3⟩
  have hb : w.heap.size ≤ b := Nat.le_trans HB2.out.size hb0
  have HB3 := Lib.hid (HB2.out.trans (B3.mono HB2.out.size))
  have HC3 := Lib.hid C3
  clear B3 C3 hb0
  go_wp2_with fail
  refine (answer (Take_t b all 0 s.size _ (by omega) (by omega) HC3.out) (congrArg Value.string HAX.out)).mono ?_
  rintro e w4 ⟨rfl, M4⟩
  have HB4 := Lib.hid (below_move HB3.out M4 hb (Nat.le_refl _))
  have HC4 := Lib.hid (show Cur w4 b all (s.size + (cat Q 0).length) false from by rw [show s.size + (cat Q 0).length = 0 + s.size by simp [cat]]; exact M4.2)
  clear M4
  go_wp2_with fail
  go_loopw [8] (fun i wr => Round w s all Q b len i wr) (fun i _ => len - (intOf i).toNat)
  case atStart => exact ⟨0, ⟨by omega, rfl⟩, HB4.out, HC4.out⟩
  case round =>
    obtain ⟨j, ⟨hj, rfl⟩, hB, hC⟩ := hrel
    have HB := Lib.hid hB
    have HC := Lib.hid hC
    clear HB4 HC4 HB3 HC3
    by_cases hlt : j < len
    · obtain ⟨ad, rfl, c0, c1, c2, ⟨b0, b1⟩, b2, b3⟩ := (HP.out.below (B := 0) hB) j (by omega)
      have hsub := sub_cat s.data.toList Q hlt all HAL.out
      rw [show s.data.toList.length = s.size by simp] at hsub
      have HSUB := Lib.hid hsub
      have hk : s.size + (cat Q j).length ≤ all.size := by have := cat_len_mono Q hj; have := HAS.out; omega
      clear hB hC hsub
      go_wp2_with fail
      clear c0 c1 c2
      refine (part_read_t (Q j).1 (Q j).2.1 (Q j).2.2 b0 b1 b2 b3 b all _ (by omega) hk HSUB.out _ HC.out).mono ?_
      rintro e w5 ⟨rfl, M5⟩
      have HN := Lib.hid (show Round w s all Q b len (.int .i64 ((j + 1 : Nat) : Int)) w5 from ⟨j + 1, ⟨by omega, rfl⟩, below_move HB.out M5 hb (Nat.le_refl _), by rw [cat, List.length_append, ← Nat.add_assoc]; exact M5.2⟩)
      clear M5 HSUB hk
      go_wp2_with fail
      go_roundw
      case rel => exact HN.out
      case measure => simp [intOf]; omega
    · obtain rfl : len = j := by omega
      have HCA := Lib.hid (show Cur wr b all all.size false from by rw [HAS.out]; exact hC)
      clear hB hC
      go_wp2_with fail
      refine (End_donem b all all.size _ (by omega) rfl HCA.out).mono ?_
      rintro e w5 ⟨rfl, M5⟩
      have HM5 := Lib.hid M5
      clear M5
      go_wp2_with fail
      refine (answer (Left_mv b all all.size _ (by omega) (by omega) HM5.out.2) (val_int (by omega) : _ = Value.int .i64 0)).mono ?_
      rintro e w6 ⟨rfl, M6⟩
      have HM6 := Lib.hid M6
      clear M6
      go_wp2_with fail
      refine (At_mv b all all.size _ false HM6.out.2).mono ?_
      rintro e w7 ⟨rfl, M7⟩
      have HB7 := Lib.hid (below_move (below_move (below_move HB.out HM5.out hb (Nat.le_refl _)) HM6.out hb (Nat.le_refl _)) M7 hb (Nat.le_refl _))
      clear M7
      go_wp2_with fail
      go_ret
      exact ⟨rfl, HB7.out⟩

set_option maxRecDepth 100000 in
set_option maxHeartbeats 4000000 in
theorem walk_sm (s : ByteArray) (hs : s.size ≤ 140737488351232) (A : Option Addr) (len cap : Nat) (hl : len ≤ cap) (hc : cap ≤ 9223372036854775807) (Q : Nat → Int × Nat × ByteArray) (w : World) (hp : Parts w A len Q) (h1 : s.size ≤ 100) (h2 : 30 < len) :
    Calls Try.prog 5 #[.string s, .slice A len cap] w fun e w' => e = .returned (.bool true) ∧ Below w.heap.size w w' := by
  have HP := Lib.hid hp
  clear hp
  go_enter Try.func5, Try.ntmps5
  go_wp2_with fail
  refine (works_true _).mono ?_
  rintro e w1 ⟨rfl, B1⟩
  have HB1 := Lib.hid B1
  have HP1 := Lib.hid ((HP.out.below (B := 0) B1).front (m := 30) (by omega))
  clear B1
  go_wp2_with fail
  go_quiet (fail)
  go_wp2_with fail
  refine (laid_any s (by omega) A 30 cap (by omega) Q _ (by exact HP1.out)).mono ?_
  rintro e w2 ⟨v, rfl, own2, B2⟩
  have HB2 := Lib.hid (HB1.out.trans ((below_drewN (Below.refl _ w1) nq).trans (B2.mono HB1.out.size)))
  obtain ⟨all, hall⟩ : ∃ all : ByteArray, all = s ++ ⟨(cat Q 30).toArray⟩ := ⟨_, rfl⟩
  have has : all.size = s.size + (cat Q 30).length := by rw [hall, append_size]
  have hal : all.data.toList = s.data.toList ++ cat Q 30 := by rw [hall, append_toList]
  have hax : all.extract 0 (0 + s.size) = s := by rw [hall]; exact extract_front _ _
  have hcl := cat_le Q 30
  rw [← hall]
  have has1 : all.size ≤ 1000 := by omega
  have has2 : s.size ≤ all.size := by omega
  have HAS := Lib.hid has
  have HAL := Lib.hid hal
  have HAX := Lib.hid hax
  clear own2 B2 hall has hal hax hcl
  go_wp2_with fail
  refine (Read_new all _).mono ?_
  rintro e w3 ⟨b, rfl, hb0, B3, C3⟩
  have hb : w.heap.size ≤ b := Nat.le_trans HB2.out.size hb0
  have HB3 := Lib.hid (HB2.out.trans (B3.mono HB2.out.size))
  have HC3 := Lib.hid C3
  clear B3 C3 hb0
  go_wp2_with fail
  refine (answer (Take_t b all 0 s.size _ (by omega) (by omega) HC3.out) (congrArg Value.string HAX.out)).mono ?_
  rintro e w4 ⟨rfl, M4⟩
  have HB4 := Lib.hid (below_move HB3.out M4 hb (Nat.le_refl _))
  have HC4 := Lib.hid (show Cur w4 b all (s.size + (cat Q 0).length) false from by rw [show s.size + (cat Q 0).length = 0 + s.size by simp [cat]]; exact M4.2)
  clear M4
  go_wp2_with fail
  go_loopw [8] (fun i wr => Round w s all Q b 30 i wr) (fun i _ => 30 - (intOf i).toNat)
  case atStart => exact ⟨0, ⟨by omega, rfl⟩, HB4.out, HC4.out⟩
  case round =>
    obtain ⟨j, ⟨hj, rfl⟩, hB, hC⟩ := hrel
    have HB := Lib.hid hB
    have HC := Lib.hid hC
    clear HB4 HC4 HB3 HC3
    by_cases hlt : j < 30
    · obtain ⟨ad, rfl, c0, c1, c2, ⟨b0, b1⟩, b2, b3⟩ := (HP.out.below (B := 0) hB) j (by omega)
      have hsub := sub_cat s.data.toList Q hlt all HAL.out
      rw [show s.data.toList.length = s.size by simp] at hsub
      have HSUB := Lib.hid hsub
      have hk : s.size + (cat Q j).length ≤ all.size := by have := cat_len_mono Q hj; have := HAS.out; omega
      clear hB hC hsub
      go_wp2_with fail
      clear c0 c1 c2
      refine (part_read_t (Q j).1 (Q j).2.1 (Q j).2.2 b0 b1 b2 b3 b all _ (by omega) hk HSUB.out _ HC.out).mono ?_
      rintro e w5 ⟨rfl, M5⟩
      have HN := Lib.hid (show Round w s all Q b 30 (.int .i64 ((j + 1 : Nat) : Int)) w5 from ⟨j + 1, ⟨by omega, rfl⟩, below_move HB.out M5 hb (Nat.le_refl _), by rw [cat, List.length_append, ← Nat.add_assoc]; exact M5.2⟩)
      clear M5 HSUB hk
      go_wp2_with fail
      go_roundw
      case rel => exact HN.out
      case measure => simp [intOf]; omega
    · obtain rfl : 30 = j := by omega
      have HCA := Lib.hid (show Cur wr b all all.size false from by rw [HAS.out]; exact hC)
      clear hB hC
      go_wp2_with fail
      refine (End_donem b all all.size _ (by omega) rfl HCA.out).mono ?_
      rintro e w5 ⟨rfl, M5⟩
      have HM5 := Lib.hid M5
      clear M5
      go_wp2_with fail
      refine (answer (Left_mv b all all.size _ (by omega) (by omega) HM5.out.2) (val_int (by omega) : _ = Value.int .i64 0)).mono ?_
      rintro e w6 ⟨rfl, M6⟩
      have HM6 := Lib.hid M6
      clear M6
      go_wp2_with fail
      refine (At_mv b all all.size _ false HM6.out.2).mono ?_
      rintro e w7 ⟨rfl, M7⟩
      have HB7 := Lib.hid (below_move (below_move (below_move HB.out HM5.out hb (Nat.le_refl _)) HM6.out hb (Nat.le_refl _)) M7 hb (Nat.le_refl _))
      clear M7
      go_wp2_with fail
      go_ret
      exact ⟨rfl, HB7.out⟩

set_option maxRecDepth 100000 in
set_option maxHeartbeats 4000000 in
theorem walk_ls (s : ByteArray) (hs : s.size ≤ 140737488351232) (A : Option Addr) (len cap : Nat) (hl : len ≤ cap) (hc : cap ≤ 9223372036854775807) (Q : Nat → Int × Nat × ByteArray) (w : World) (hp : Parts w A len Q) (h1 : 100 < s.size) (h2 : len ≤ 30) :
    Calls Try.prog 5 #[.string s, .slice A len cap] w fun e w' => e = .returned (.bool true) ∧ Below w.heap.size w w' := by
  have HP := Lib.hid hp
  clear hp
  go_enter Try.func5, Try.ntmps5
  go_wp2_with fail
  refine (works_true _).mono ?_
  rintro e w1 ⟨rfl, B1⟩
  have HB1 := Lib.hid B1
  have HP1 := Lib.hid ((HP.out.below (B := 0) B1).front (m := len) (by omega))
  clear B1
  go_wp2_with fail
  go_quiet (fail)
  go_wp2_with fail
  obtain ⟨x, hx⟩ : ∃ x : ByteArray, x = s.extract 0 100 := ⟨_, rfl⟩
  have hxs : x.size ≤ 100 := by rw [hx, ByteArray.size_extract]; omega
  rw [← hx]
  clear hx
  refine (laid_any x (by omega) A len cap (by omega) Q _ (by exact HP1.out)).mono ?_
  rintro e w2 ⟨v, rfl, own2, B2⟩
  have HB2 := Lib.hid (HB1.out.trans ((below_drewN (Below.refl _ w1) nq).trans (B2.mono HB1.out.size)))
  obtain ⟨all, hall⟩ : ∃ all : ByteArray, all = x ++ ⟨(cat Q len).toArray⟩ := ⟨_, rfl⟩
  have has : all.size = x.size + (cat Q len).length := by rw [hall, append_size]
  have hal : all.data.toList = x.data.toList ++ cat Q len := by rw [hall, append_toList]
  have hax : all.extract 0 (0 + x.size) = x := by rw [hall]; exact extract_front _ _
  have hcl := cat_le Q len
  rw [← hall]
  have has1 : all.size ≤ 1000 := by omega
  have has2 : x.size ≤ all.size := by omega
  have HAS := Lib.hid has
  have HAL := Lib.hid hal
  have HAX := Lib.hid hax
  clear own2 B2 hall has hal hax hcl
  go_wp2_with fail
  refine (Read_new all _).mono ?_
  rintro e w3 ⟨b, rfl, hb0, B3, C3⟩
  have hb : w.heap.size ≤ b := Nat.le_trans HB2.out.size hb0
  have HB3 := Lib.hid (HB2.out.trans (B3.mono HB2.out.size))
  have HC3 := Lib.hid C3
  clear B3 C3 hb0
  go_wp2_with fail
  refine (answer (Take_t b all 0 x.size _ (by omega) (by omega) HC3.out) (congrArg Value.string HAX.out)).mono ?_
  rintro e w4 ⟨rfl, M4⟩
  have HB4 := Lib.hid (below_move HB3.out M4 hb (Nat.le_refl _))
  have HC4 := Lib.hid (show Cur w4 b all (x.size + (cat Q 0).length) false from by rw [show x.size + (cat Q 0).length = 0 + x.size by simp [cat]]; exact M4.2)
  clear M4
  go_wp2_with fail
  go_loopw [8] (fun i wr => Round w x all Q b len i wr) (fun i _ => len - (intOf i).toNat)
  case atStart => exact ⟨0, ⟨by omega, rfl⟩, HB4.out, HC4.out⟩
  case round =>
    obtain ⟨j, ⟨hj, rfl⟩, hB, hC⟩ := hrel
    have HB := Lib.hid hB
    have HC := Lib.hid hC
    clear HB4 HC4 HB3 HC3
    by_cases hlt : j < len
    · obtain ⟨ad, rfl, c0, c1, c2, ⟨b0, b1⟩, b2, b3⟩ := (HP.out.below (B := 0) hB) j (by omega)
      have hsub := sub_cat x.data.toList Q hlt all HAL.out
      rw [show x.data.toList.length = x.size by simp] at hsub
      have HSUB := Lib.hid hsub
      have hk : x.size + (cat Q j).length ≤ all.size := by have := cat_len_mono Q hj; have := HAS.out; omega
      clear hB hC hsub
      go_wp2_with fail
      clear c0 c1 c2
      refine (part_read_t (Q j).1 (Q j).2.1 (Q j).2.2 b0 b1 b2 b3 b all _ (by omega) hk HSUB.out _ HC.out).mono ?_
      rintro e w5 ⟨rfl, M5⟩
      have HN := Lib.hid (show Round w x all Q b len (.int .i64 ((j + 1 : Nat) : Int)) w5 from ⟨j + 1, ⟨by omega, rfl⟩, below_move HB.out M5 hb (Nat.le_refl _), by rw [cat, List.length_append, ← Nat.add_assoc]; exact M5.2⟩)
      clear M5 HSUB hk
      go_wp2_with fail
      go_roundw
      case rel => exact HN.out
      case measure => simp [intOf]; omega
    · obtain rfl : len = j := by omega
      have HCA := Lib.hid (show Cur wr b all all.size false from by rw [HAS.out]; exact hC)
      clear hB hC
      go_wp2_with fail
      refine (End_donem b all all.size _ (by omega) rfl HCA.out).mono ?_
      rintro e w5 ⟨rfl, M5⟩
      have HM5 := Lib.hid M5
      clear M5
      go_wp2_with fail
      refine (answer (Left_mv b all all.size _ (by omega) (by omega) HM5.out.2) (val_int (by omega) : _ = Value.int .i64 0)).mono ?_
      rintro e w6 ⟨rfl, M6⟩
      have HM6 := Lib.hid M6
      clear M6
      go_wp2_with fail
      refine (At_mv b all all.size _ false HM6.out.2).mono ?_
      rintro e w7 ⟨rfl, M7⟩
      have HB7 := Lib.hid (below_move (below_move (below_move HB.out HM5.out hb (Nat.le_refl _)) HM6.out hb (Nat.le_refl _)) M7 hb (Nat.le_refl _))
      clear M7
      go_wp2_with fail
      go_ret
      exact ⟨rfl, HB7.out⟩

set_option maxRecDepth 100000 in
set_option maxHeartbeats 4000000 in
theorem walk_lm (s : ByteArray) (hs : s.size ≤ 140737488351232) (A : Option Addr) (len cap : Nat) (hl : len ≤ cap) (hc : cap ≤ 9223372036854775807) (Q : Nat → Int × Nat × ByteArray) (w : World) (hp : Parts w A len Q) (h1 : 100 < s.size) (h2 : 30 < len) :
    Calls Try.prog 5 #[.string s, .slice A len cap] w fun e w' => e = .returned (.bool true) ∧ Below w.heap.size w w' := by
  have HP := Lib.hid hp
  clear hp
  go_enter Try.func5, Try.ntmps5
  go_wp2_with fail
  refine (works_true _).mono ?_
  rintro e w1 ⟨rfl, B1⟩
  have HB1 := Lib.hid B1
  have HP1 := Lib.hid ((HP.out.below (B := 0) B1).front (m := 30) (by omega))
  clear B1
  go_wp2_with fail
  go_quiet (fail)
  go_wp2_with fail
  obtain ⟨x, hx⟩ : ∃ x : ByteArray, x = s.extract 0 100 := ⟨_, rfl⟩
  have hxs : x.size ≤ 100 := by rw [hx, ByteArray.size_extract]; omega
  rw [← hx]
  clear hx
  refine (laid_any x (by omega) A 30 cap (by omega) Q _ (by exact HP1.out)).mono ?_
  rintro e w2 ⟨v, rfl, own2, B2⟩
  have HB2 := Lib.hid (HB1.out.trans ((below_drewN (Below.refl _ w1) nq).trans (B2.mono HB1.out.size)))
  obtain ⟨all, hall⟩ : ∃ all : ByteArray, all = x ++ ⟨(cat Q 30).toArray⟩ := ⟨_, rfl⟩
  have has : all.size = x.size + (cat Q 30).length := by rw [hall, append_size]
  have hal : all.data.toList = x.data.toList ++ cat Q 30 := by rw [hall, append_toList]
  have hax : all.extract 0 (0 + x.size) = x := by rw [hall]; exact extract_front _ _
  have hcl := cat_le Q 30
  rw [← hall]
  have has1 : all.size ≤ 1000 := by omega
  have has2 : x.size ≤ all.size := by omega
  have HAS := Lib.hid has
  have HAL := Lib.hid hal
  have HAX := Lib.hid hax
  clear own2 B2 hall has hal hax hcl
  go_wp2_with fail
  refine (Read_new all _).mono ?_
  rintro e w3 ⟨b, rfl, hb0, B3, C3⟩
  have hb : w.heap.size ≤ b := Nat.le_trans HB2.out.size hb0
  have HB3 := Lib.hid (HB2.out.trans (B3.mono HB2.out.size))
  have HC3 := Lib.hid C3
  clear B3 C3 hb0
  go_wp2_with fail
  refine (answer (Take_t b all 0 x.size _ (by omega) (by omega) HC3.out) (congrArg Value.string HAX.out)).mono ?_
  rintro e w4 ⟨rfl, M4⟩
  have HB4 := Lib.hid (below_move HB3.out M4 hb (Nat.le_refl _))
  have HC4 := Lib.hid (show Cur w4 b all (x.size + (cat Q 0).length) false from by rw [show x.size + (cat Q 0).length = 0 + x.size by simp [cat]]; exact M4.2)
  clear M4
  go_wp2_with fail
  go_loopw [8] (fun i wr => Round w x all Q b 30 i wr) (fun i _ => 30 - (intOf i).toNat)
  case atStart => exact ⟨0, ⟨by omega, rfl⟩, HB4.out, HC4.out⟩
  case round =>
    obtain ⟨j, ⟨hj, rfl⟩, hB, hC⟩ := hrel
    have HB := Lib.hid hB
    have HC := Lib.hid hC
    clear HB4 HC4 HB3 HC3
    by_cases hlt : j < 30
    · obtain ⟨ad, rfl, c0, c1, c2, ⟨b0, b1⟩, b2, b3⟩ := (HP.out.below (B := 0) hB) j (by omega)
      have hsub := sub_cat x.data.toList Q hlt all HAL.out
      rw [show x.data.toList.length = x.size by simp] at hsub
      have HSUB := Lib.hid hsub
      have hk : x.size + (cat Q j).length ≤ all.size := by have := cat_len_mono Q hj; have := HAS.out; omega
      clear hB hC hsub
      go_wp2_with fail
      clear c0 c1 c2
      refine (part_read_t (Q j).1 (Q j).2.1 (Q j).2.2 b0 b1 b2 b3 b all _ (by omega) hk HSUB.out _ HC.out).mono ?_
      rintro e w5 ⟨rfl, M5⟩
      have HN := Lib.hid (show Round w x all Q b 30 (.int .i64 ((j + 1 : Nat) : Int)) w5 from ⟨j + 1, ⟨by omega, rfl⟩, below_move HB.out M5 hb (Nat.le_refl _), by rw [cat, List.length_append, ← Nat.add_assoc]; exact M5.2⟩)
      clear M5 HSUB hk
      go_wp2_with fail
      go_roundw
      case rel => exact HN.out
      case measure => simp [intOf]; omega
    · obtain rfl : 30 = j := by omega
      have HCA := Lib.hid (show Cur wr b all all.size false from by rw [HAS.out]; exact hC)
      clear hB hC
      go_wp2_with fail
      refine (End_donem b all all.size _ (by omega) rfl HCA.out).mono ?_
      rintro e w5 ⟨rfl, M5⟩
      have HM5 := Lib.hid M5
      clear M5
      go_wp2_with fail
      refine (answer (Left_mv b all all.size _ (by omega) (by omega) HM5.out.2) (val_int (by omega) : _ = Value.int .i64 0)).mono ?_
      rintro e w6 ⟨rfl, M6⟩
      have HM6 := Lib.hid M6
      clear M6
      go_wp2_with fail
      refine (At_mv b all all.size _ false HM6.out.2).mono ?_
      rintro e w7 ⟨rfl, M7⟩
      have HB7 := Lib.hid (below_move (below_move (below_move HB.out HM5.out hb (Nat.le_refl _)) HM6.out hb (Nat.le_refl _)) M7 hb (Nat.le_refl _))
      clear M7
      go_wp2_with fail
      go_ret
      exact ⟨rfl, HB7.out⟩

theorem walk (s : ByteArray) (hs : s.size ≤ 140737488351232) (A : Option Addr) (len cap : Nat) (hl : len ≤ cap) (hc : cap ≤ 9223372036854775807) (Q : Nat → Int × Nat × ByteArray) (w : World) (hp : Parts w A len Q) :
    Calls Try.prog 5 #[.string s, .slice A len cap] w fun e w' => e = .returned (.bool true) ∧ Below w.heap.size w w' := by
  by_cases h1 : s.size ≤ 100 <;> by_cases h2 : len ≤ 30
  · exact walk_ss s hs A len cap hl hc Q w hp h1 h2
  · exact walk_sm s hs A len cap hl hc Q w hp h1 (by omega)
  · exact walk_ls s hs A len cap hl hc Q w hp (by omega) h2
  · exact walk_lm s hs A len cap hl hc Q w hp (by omega) (by omega)

theorem own : ownKnob Try.prog.godebug = none := by kernel_rfl
theorem laidOut : laidOutB Try.prog = true := by kernel_rfl

set_option maxRecDepth 100000 in
theorem lifted (os : Os) (started : os.Started) (H : Type) (enc : TypeId × Value → H) :
    ReturnsInHanded {} Try.checked os 5 .any (Rows.cursorBackSpec.pre6 enc Try.prog Try.f5 Rows.cursorBackRow.domain false) (Rows.cursorBackSpec.post enc Try.prog Try.f5 false true false false) := by
  refine returnsInHanded_of_change_sized (C := Try.checked) own started (by kernel_rfl) Try.func5
    (ChangeSpec.witness6 (enc := enc) (C := Try.checked) false ⟨#[], #[.string ByteArray.empty, .slice none 0 0], []⟩ 8 (by kernel_rfl) (by kernel_rfl) (by kernel_rfl) (by kernel_rfl)) ?_
  intro W base args ds gs before hval0 hW hcnd hsz0 _
  have hsz : (DataW.weightsEach Try.prog (Try.f5.params.toList ++ Rows.cursorBackSpec.plain.varTypes Try.prog) (ds ++ gs)).all (· ≤ reachBytes) = true := hsz0
  have hval : ∀ (j : Nat) t v, Try.f5.params[j]? = some t → args[j]? = some v → Value.okWide Try.prog W .any base t v := hval0
  have hW' := hW
  obtain ⟨p, q, hA0, hV, rfl, hfz, hnd⟩ := hW
  have hA : DataW.TrodAll enc Try.prog W 0 (fun _ => true) true Try.f5.params.toList args.toList ds p := hA0
  rw [Try.params5] at hA hval hsz
  obtain ⟨v0, vs0, d0, ds0, p0, q0, hargs, rfl, rfl, h0, r0⟩ := trodAll_cons hA
  obtain ⟨v1, vs1, d1, ds1, p1, q1, rfl, rfl, rfl, h1, r1⟩ := trodAll_cons r0
  obtain ⟨rfl, rfl, rfl⟩ := trodAll_nil r1
  obtain rfl : args = #[v0, v1] := by cases args; simp_all
  obtain ⟨rfl, rfl⟩ := trodVars_none hV
  obtain ⟨a0, rfl, rfl, rfl, w0⟩ := open_string Try.underlying9 (hval 0 9 v0 rfl rfl) h0
  have k1 := h1
  have lt1 : ∀ x ∈ p1, x.block < W.heap.size := by obtain ⟨m, hm⟩ := k1; exact DataW.trod_lt m _ _ _ hm
  obtain ⟨A, len, cap, Q, rfl, hl, hc, hp⟩ := open_parts (hval 1 45 v1 rfl rfl) h1
  have z0 : a0.size ≤ 140737488351232 := by have := sized_string hsz (j := 0) (t := 9) rfl rfl; simpa [reachBytes] using this
  clear hA0 hval0
  simp only [List.append_nil] at hW'
  refine (walk a0 z0 A len cap hl hc Q W hp).mono fun e W' ⟨he, bel⟩ => ?_
  subst he
  exact ⟨_, rfl, _, _, _, [], _, [], hW', trodAll_mk1 (shut_bool Try.underlying4 _), (trodAll_cons_mk (shut_string Try.underlying9 w0) (trodAll_cons_mk (Below.trod laidOut (by kernel_rfl) (of_decide_eq_true (by kernel_rfl)) k1 bel lt1) trodAll_mk0)), rfl, bel.frame _, fun h => by cases h⟩

theorem over : Rows.cursorBackRow.holds Try.pinned (OpenSpec.ofChange Rows.cursorBackSpec) :=
  OpenClaim.holds_of_wide 5 Try.f5 rfl rfl rfl rfl rfl rfl rfl ⟨rfl, rfl, rfl, rfl, rfl⟩ rfl rfl rfl rfl rfl (by kernel_rfl) Try.func5 (by kernel_rfl)
    (of_decide_eq_true (by kernel_rfl)) (by unfold Func.isWrapper; first | (rw [if_pos (by decide +kernel)]; kernel_rfl) | (rw [if_neg (by decide +kernel)]; exact ⟨rfl, rfl⟩))
    (fun os started H enc _ => lifted os started H enc)

theorem proved : Rows.CursorBackSaid := over
#print axioms proved
end Go.Proofs.Ytjkbajhmnfejgaa.cursorBack
