/-
  plaitlaw02's parts: their text, how they are put, and how they are read, each by its walk.
-/
import Derived.Test.YtjkbajhmnfejgaaCurMoves
import Derived.Test.YtjkbajhmnfejgaaCurCat
namespace Go.Proofs.Ytjkbajhmnfejgaa
open Go.ChangeShapes Go.WideShapes Go.ChangeAt Go.RowKit
set_option linter.unusedVariables false

theorem three {w : World} {g : Nat} {x y z : Value} (h : Blk w g 51 #[x, y, z]) : w.cell? ⟨g, 0, none⟩ = some x ∧ w.cell? ⟨g, 1, none⟩ = some y ∧ w.cell? ⟨g, 2, none⟩ = some z := ⟨h.cell 0, h.cell 1, h.cell 2⟩

theorem only_undrew {w w' : World} {row : Option Nat} (h : w.drew.grownBy w' row) : w.grownBy w' row := ⟨h.os, h.tape, h.output, h.size, h.block⟩

theorem text_any (a : Int) (n : Nat) (t : ByteArray) (ht : t.size ≤ 9223372036854775807) (w : World) :
    Calls Try.prog 38 #[.agg #[.int .u8 a, .int .u64 (n : Int), .string t]] w fun e w' => e = .returned (.string ⟨(t.data.toList.take 20).toArray⟩) ∧ w.alloc (.cells #[.int .u8 a, .int .u64 (n : Int), .string t] 51) = w' := by
  by_cases h : t.size ≤ 20
  · have e : (⟨(t.data.toList.take 20).toArray⟩ : ByteArray) = t := by
      apply ByteArray.ext
      rw [List.take_of_length_le (by simpa using h)]
    rw [e]
    clear e
    go_enter Try.func38, Try.ntmps38
    go_wp2
    go_ret; exact ⟨rfl, rfl⟩
  · rw [← text20, Nat.min_eq_right (by omega)]
    go_enter Try.func38, Try.ntmps38
    go_wp2
    go_ret; exact ⟨rfl, rfl⟩
theorem be_md1 (n : Nat) : be 1 (n % 256) = be 1 n := be_mod 1 n 1 (by omega)

theorem put0 (a : Int) (n : Nat) (t : ByteArray) (a0 : 0 ≤ a) (a1 : a ≤ 255) (hn : n ≤ 18446744073709551615) (ht : t.size ≤ 9223372036854775807) (s : ByteArray) (hs : s.size ≤ 9223372036854775000) (w : World) (ha : a % 5 = 0) :
    Calls Try.prog 36 #[.agg #[.int .u8 a, .int .u64 (n : Int), .string t], .string s] w fun e w' => e = .returned (.string (s ++ ⟨(part (a, n, t)).toArray⟩)) ∧ Below w.heap.size w w' := by
  rw [part0 (q := (a, n, t)) ha]
  go_enter Try.func36, Try.ntmps36
  go_wp2_with fail
  clear ha
  rw [show ((n : Int) % 256) = ((n % 256 : Nat) : Int) by omega]
  refine (answer (Put8_any s (n % 256) _ hs (by omega)) (congrArg Value.string (by rw [be_md1] : _ = s ++ ⟨(be 1 n).toArray⟩))).mono ?_
  rintro e w1 ⟨rfl, B1⟩
  have HB := Lib.hid (((Below.refl w.heap.size w).alloc (Nat.le_refl _) (.cells #[.int .u8 a, .int .u64 (n : Int), .string t] 51)).trans (B1.mono (by simp)))
  clear B1
  go_wp2_with fail
  go_ret
  exact ⟨rfl, HB.out⟩
theorem be_md2 (n : Nat) : be 2 (n % 65536) = be 2 n := be_mod 2 n 2 (by omega)

theorem put1 (a : Int) (n : Nat) (t : ByteArray) (a0 : 0 ≤ a) (a1 : a ≤ 255) (hn : n ≤ 18446744073709551615) (ht : t.size ≤ 9223372036854775807) (s : ByteArray) (hs : s.size ≤ 9223372036854775000) (w : World) (ha : a % 5 = 1) :
    Calls Try.prog 36 #[.agg #[.int .u8 a, .int .u64 (n : Int), .string t], .string s] w fun e w' => e = .returned (.string (s ++ ⟨(part (a, n, t)).toArray⟩)) ∧ Below w.heap.size w w' := by
  rw [part1 (q := (a, n, t)) ha]
  go_enter Try.func36, Try.ntmps36
  go_wp2_with fail
  clear ha
  rw [show IntKind.u16.wrap (n : Int) = ((n % 65536 : Nat) : Int) by rw [IntKind.wrap_u16]; omega]
  refine (answer (Put16_any s (n % 65536) _ hs (by omega)) (congrArg Value.string (by rw [be_md2] : _ = s ++ ⟨(be 2 n).toArray⟩))).mono ?_
  rintro e w1 ⟨rfl, B1⟩
  have HB := Lib.hid (((Below.refl w.heap.size w).alloc (Nat.le_refl _) (.cells #[.int .u8 a, .int .u64 (n : Int), .string t] 51)).trans (B1.mono (by simp)))
  clear B1
  go_wp2_with fail
  go_ret
  exact ⟨rfl, HB.out⟩
theorem be_md4 (n : Nat) : be 4 (n % 4294967296) = be 4 n := be_mod 4 n 4 (by omega)

theorem put2 (a : Int) (n : Nat) (t : ByteArray) (a0 : 0 ≤ a) (a1 : a ≤ 255) (hn : n ≤ 18446744073709551615) (ht : t.size ≤ 9223372036854775807) (s : ByteArray) (hs : s.size ≤ 9223372036854775000) (w : World) (ha : a % 5 = 2) :
    Calls Try.prog 36 #[.agg #[.int .u8 a, .int .u64 (n : Int), .string t], .string s] w fun e w' => e = .returned (.string (s ++ ⟨(part (a, n, t)).toArray⟩)) ∧ Below w.heap.size w w' := by
  rw [part2 (q := (a, n, t)) ha]
  go_enter Try.func36, Try.ntmps36
  go_wp2_with fail
  clear ha
  rw [show ((n : Int) % 4294967296) = ((n % 4294967296 : Nat) : Int) by omega]
  refine (answer (Put32_any s (n % 4294967296) _ hs (by omega)) (congrArg Value.string (by rw [be_md4] : _ = s ++ ⟨(be 4 n).toArray⟩))).mono ?_
  rintro e w1 ⟨rfl, B1⟩
  have HB := Lib.hid (((Below.refl w.heap.size w).alloc (Nat.le_refl _) (.cells #[.int .u8 a, .int .u64 (n : Int), .string t] 51)).trans (B1.mono (by simp)))
  clear B1
  go_wp2_with fail
  go_ret
  exact ⟨rfl, HB.out⟩

theorem put3 (a : Int) (n : Nat) (t : ByteArray) (a0 : 0 ≤ a) (a1 : a ≤ 255) (hn : n ≤ 18446744073709551615) (ht : t.size ≤ 9223372036854775807) (s : ByteArray) (hs : s.size ≤ 9223372036854775000) (w : World) (ha : a % 5 = 3) :
    Calls Try.prog 36 #[.agg #[.int .u8 a, .int .u64 (n : Int), .string t], .string s] w fun e w' => e = .returned (.string (s ++ ⟨(part (a, n, t)).toArray⟩)) ∧ Below w.heap.size w w' := by
  rw [part3 (q := (a, n, t)) ha]
  go_enter Try.func36, Try.ntmps36
  go_wp2_with fail
  clear ha
  refine (answer (Put64_any s n _ hs (by omega)) (congrArg Value.string (rfl : _ = s ++ ⟨(be 8 n).toArray⟩))).mono ?_
  rintro e w1 ⟨rfl, B1⟩
  have HB := Lib.hid (((Below.refl w.heap.size w).alloc (Nat.le_refl _) (.cells #[.int .u8 a, .int .u64 (n : Int), .string t] 51)).trans (B1.mono (by simp)))
  clear B1
  go_wp2_with fail
  go_ret
  exact ⟨rfl, HB.out⟩

theorem put4 (a : Int) (n : Nat) (t : ByteArray) (a0 : 0 ≤ a) (a1 : a ≤ 255) (hn : n ≤ 18446744073709551615) (ht : t.size ≤ 9223372036854775807) (s : ByteArray) (hs : s.size ≤ 9223372036854775000) (w : World) (ha : a % 5 = 4) :
    Calls Try.prog 36 #[.agg #[.int .u8 a, .int .u64 (n : Int), .string t], .string s] w fun e w' => e = .returned (.string (s ++ ⟨(part (a, n, t)).toArray⟩)) ∧ Below w.heap.size w w' := by
  rw [part4 (q := (a, n, t)) ha]
  obtain ⟨x, hx⟩ : ∃ x : ByteArray, x = ⟨(t.data.toList.take 20).toArray⟩ := ⟨_, rfl⟩
  have hxs : x.size ≤ 20 := by rw [hx]; show (List.toArray _).size ≤ 20; simp; omega
  rw [← hx]
  have HX := Lib.hid hx
  clear hx
  go_enter Try.func36, Try.ntmps36
  go_wp2_with fail
  clear ha
  refine (answer (text_any a n t ht _) (congrArg Value.string HX.out.symm)).mono ?_
  rintro e w1 ⟨rfl, rfl⟩
  go_wp2_with fail
  go_ret
  exact ⟨rfl, ((Below.refl _ _).alloc (Nat.le_refl _) _).alloc (by simp) _⟩
theorem put_any (a : Int) (n : Nat) (t : ByteArray) (a0 : 0 ≤ a) (a1 : a ≤ 255) (hn : n ≤ 18446744073709551615) (ht : t.size ≤ 9223372036854775807) (s : ByteArray) (hs : s.size ≤ 9223372036854775000) (w : World) :
    Calls Try.prog 36 #[.agg #[.int .u8 a, .int .u64 (n : Int), .string t], .string s] w fun e w' => e = .returned (.string (s ++ ⟨(part (a, n, t)).toArray⟩)) ∧ Below w.heap.size w w' := by
  obtain h | h | h | h | h : a % 5 = 0 ∨ a % 5 = 1 ∨ a % 5 = 2 ∨ a % 5 = 3 ∨ a % 5 = 4 := by omega
  · exact put0 a n t a0 a1 hn ht s hs w h
  · exact put1 a n t a0 a1 hn ht s hs w h
  · exact put2 a n t a0 a1 hn ht s hs w h
  · exact put3 a n t a0 a1 hn ht s hs w h
  · exact put4 a n t a0 a1 hn ht s hs w h

set_option maxHeartbeats 1000000 in
theorem read0_t (a : Int) (n : Nat) (t : ByteArray) (a0 : 0 ≤ a) (a1 : a ≤ 255) (hn : n ≤ 18446744073709551615) (ht : t.size ≤ 9223372036854775807) (b : Nat) (s : ByteArray) (k : Nat) (hs : s.size ≤ 9223372036854775807) (hk : k ≤ s.size) (hsub : Sub s k (part (a, n, t))) (w : World) (h : Cur w b s k false) (ha : a % 5 = 0) :
    Calls Try.prog 23 #[.agg #[.int .u8 a, .int .u64 (n : Int), .string t], .pointer (some ⟨b, 0, none⟩)] w fun e w' => e = .returned (.bool true) ∧ Moved w w' b s (k + (part (a, n, t)).length) false := by
  rw [part0 (q := (a, n, t)) ha] at hsub ⊢
  rw [be_length]
  have hl := hsub.len hk
  rw [be_length] at hl
  have hv : (num s k 1 : Int) = IntKind.u8.wrap (n : Int) := by rw [num_sub s k 1 n hsub]; rw [IntKind.wrap_u8']; omega
  have HV := Lib.hid hv
  clear hv hsub
  have blt := h.lt
  have hX := Blk.new w 51 #[.int .u8 a, .int .u64 (n : Int), .string t]
  have cS := (three hX).2.1
  have HX := Lib.hid hX
  have H := Lib.hid h
  clear h hX
  go_enter Try.func23, Try.ntmps23
  go_wp2_with fail
  clear ha
  go_region_held3 (fun w' => w'.cell? ⟨w.heap.size, 1, none⟩ = some (.int .u64 (n : Int))) (first | exact cS | exact M1.1.cell (a := ⟨w.heap.size, 1, none⟩) cS (by simp; omega))
    (first | (go_at_call 24; refine (answer (U8_t b s k _ hs hl (Blk.drew (Blk.alloc H.out _))) (val_int HV.out)).mono ?_; rintro e w1 ⟨rfl, M1⟩))
  go_wp2
  go_ret
  exact ⟨rfl, (World.grownBy_alloc w _ _).trans (only_undrew M1.1), M1.2⟩

set_option maxHeartbeats 1000000 in
theorem read0_f (a : Int) (n : Nat) (t : ByteArray) (a0 : 0 ≤ a) (a1 : a ≤ 255) (hn : n ≤ 18446744073709551615) (ht : t.size ≤ 9223372036854775807) (b : Nat) (s : ByteArray) (k : Nat) (hs : s.size ≤ 9223372036854775807) (hk : k ≤ s.size) (hm : s.size < k + (part (a, n, t)).length) (w : World) (h : Cur w b s k false) (ha : a % 5 = 0) :
    Calls Try.prog 23 #[.agg #[.int .u8 a, .int .u64 (n : Int), .string t], .pointer (some ⟨b, 0, none⟩)] w fun e w' => (∃ v, e = .returned (.bool v)) ∧ Moved w w' b s k true := by
  rw [part0 (q := (a, n, t)) ha, be_length] at hm
  have blt := h.lt
  have hX := Blk.new w 51 #[.int .u8 a, .int .u64 (n : Int), .string t]
  have cS := (three hX).2.1
  have HX := Lib.hid hX
  have H := Lib.hid h
  clear h hX
  go_enter Try.func23, Try.ntmps23
  go_wp2_with fail
  clear ha
  go_region_held3 (fun w' => w'.cell? ⟨w.heap.size, 1, none⟩ = some (.int .u64 (n : Int))) (first | exact cS | exact M1.1.cell (a := ⟨w.heap.size, 1, none⟩) cS (by simp; omega))
    (first | (go_at_call 24; refine (U8_f b s k _ hs hk hm (Blk.drew (Blk.alloc H.out _))).mono ?_; rintro e w1 ⟨rfl, M1⟩))
  go_wp2
  go_ret
  exact ⟨⟨_, rfl⟩, (World.grownBy_alloc w _ _).trans (only_undrew M1.1), M1.2⟩

set_option maxHeartbeats 1000000 in
theorem read1_t (a : Int) (n : Nat) (t : ByteArray) (a0 : 0 ≤ a) (a1 : a ≤ 255) (hn : n ≤ 18446744073709551615) (ht : t.size ≤ 9223372036854775807) (b : Nat) (s : ByteArray) (k : Nat) (hs : s.size ≤ 9223372036854775807) (hk : k ≤ s.size) (hsub : Sub s k (part (a, n, t))) (w : World) (h : Cur w b s k false) (ha : a % 5 = 1) :
    Calls Try.prog 23 #[.agg #[.int .u8 a, .int .u64 (n : Int), .string t], .pointer (some ⟨b, 0, none⟩)] w fun e w' => e = .returned (.bool true) ∧ Moved w w' b s (k + (part (a, n, t)).length) false := by
  rw [part1 (q := (a, n, t)) ha] at hsub ⊢
  rw [be_length]
  have hl := hsub.len hk
  rw [be_length] at hl
  have hv : (num s k 2 : Int) = IntKind.u16.wrap (n : Int) := by rw [num_sub s k 2 n hsub]; rw [IntKind.wrap_u16]; omega
  have HV := Lib.hid hv
  clear hv hsub
  have blt := h.lt
  have hX := Blk.new w 51 #[.int .u8 a, .int .u64 (n : Int), .string t]
  have cS := (three hX).2.1
  have HX := Lib.hid hX
  have H := Lib.hid h
  clear h hX
  go_enter Try.func23, Try.ntmps23
  go_wp2_with fail
  clear ha
  go_region_held3 (fun w' => w'.cell? ⟨w.heap.size, 1, none⟩ = some (.int .u64 (n : Int))) (first | exact cS | exact M1.1.cell (a := ⟨w.heap.size, 1, none⟩) cS (by simp; omega))
    (first | (go_at_call 26; refine (answer (U16_t b s k _ hs hl (Blk.drew (Blk.alloc H.out _))) (val_int HV.out)).mono ?_; rintro e w1 ⟨rfl, M1⟩))
  go_wp2
  go_ret
  exact ⟨rfl, (World.grownBy_alloc w _ _).trans (only_undrew M1.1), M1.2⟩

set_option maxHeartbeats 1000000 in
theorem read1_f (a : Int) (n : Nat) (t : ByteArray) (a0 : 0 ≤ a) (a1 : a ≤ 255) (hn : n ≤ 18446744073709551615) (ht : t.size ≤ 9223372036854775807) (b : Nat) (s : ByteArray) (k : Nat) (hs : s.size ≤ 9223372036854775807) (hk : k ≤ s.size) (hm : s.size < k + (part (a, n, t)).length) (w : World) (h : Cur w b s k false) (ha : a % 5 = 1) :
    Calls Try.prog 23 #[.agg #[.int .u8 a, .int .u64 (n : Int), .string t], .pointer (some ⟨b, 0, none⟩)] w fun e w' => (∃ v, e = .returned (.bool v)) ∧ Moved w w' b s k true := by
  rw [part1 (q := (a, n, t)) ha, be_length] at hm
  have blt := h.lt
  have hX := Blk.new w 51 #[.int .u8 a, .int .u64 (n : Int), .string t]
  have cS := (three hX).2.1
  have HX := Lib.hid hX
  have H := Lib.hid h
  clear h hX
  go_enter Try.func23, Try.ntmps23
  go_wp2_with fail
  clear ha
  go_region_held3 (fun w' => w'.cell? ⟨w.heap.size, 1, none⟩ = some (.int .u64 (n : Int))) (first | exact cS | exact M1.1.cell (a := ⟨w.heap.size, 1, none⟩) cS (by simp; omega))
    (first | (go_at_call 26; refine (U16_f b s k _ hs hk hm (Blk.drew (Blk.alloc H.out _))).mono ?_; rintro e w1 ⟨rfl, M1⟩))
  go_wp2
  go_ret
  exact ⟨⟨_, rfl⟩, (World.grownBy_alloc w _ _).trans (only_undrew M1.1), M1.2⟩

set_option maxHeartbeats 1000000 in
theorem read2_t (a : Int) (n : Nat) (t : ByteArray) (a0 : 0 ≤ a) (a1 : a ≤ 255) (hn : n ≤ 18446744073709551615) (ht : t.size ≤ 9223372036854775807) (b : Nat) (s : ByteArray) (k : Nat) (hs : s.size ≤ 9223372036854775807) (hk : k ≤ s.size) (hsub : Sub s k (part (a, n, t))) (w : World) (h : Cur w b s k false) (ha : a % 5 = 2) :
    Calls Try.prog 23 #[.agg #[.int .u8 a, .int .u64 (n : Int), .string t], .pointer (some ⟨b, 0, none⟩)] w fun e w' => e = .returned (.bool true) ∧ Moved w w' b s (k + (part (a, n, t)).length) false := by
  rw [part2 (q := (a, n, t)) ha] at hsub ⊢
  rw [be_length]
  have hl := hsub.len hk
  rw [be_length] at hl
  have hv : (num s k 4 : Int) = IntKind.u32.wrap (n : Int) := by rw [num_sub s k 4 n hsub]; rw [IntKind.wrap_u32']; omega
  have HV := Lib.hid hv
  clear hv hsub
  have blt := h.lt
  have hX := Blk.new w 51 #[.int .u8 a, .int .u64 (n : Int), .string t]
  have cS := (three hX).2.1
  have HX := Lib.hid hX
  have H := Lib.hid h
  clear h hX
  go_enter Try.func23, Try.ntmps23
  go_wp2_with fail
  clear ha
  go_region_held3 (fun w' => w'.cell? ⟨w.heap.size, 1, none⟩ = some (.int .u64 (n : Int))) (first | exact cS | exact M1.1.cell (a := ⟨w.heap.size, 1, none⟩) cS (by simp; omega))
    (first | (go_at_call 27; refine (answer (U32_t b s k _ hs hl (Blk.drew (Blk.alloc H.out _))) (val_int HV.out)).mono ?_; rintro e w1 ⟨rfl, M1⟩))
  go_wp2
  go_ret
  exact ⟨rfl, (World.grownBy_alloc w _ _).trans (only_undrew M1.1), M1.2⟩

set_option maxHeartbeats 1000000 in
theorem read2_f (a : Int) (n : Nat) (t : ByteArray) (a0 : 0 ≤ a) (a1 : a ≤ 255) (hn : n ≤ 18446744073709551615) (ht : t.size ≤ 9223372036854775807) (b : Nat) (s : ByteArray) (k : Nat) (hs : s.size ≤ 9223372036854775807) (hk : k ≤ s.size) (hm : s.size < k + (part (a, n, t)).length) (w : World) (h : Cur w b s k false) (ha : a % 5 = 2) :
    Calls Try.prog 23 #[.agg #[.int .u8 a, .int .u64 (n : Int), .string t], .pointer (some ⟨b, 0, none⟩)] w fun e w' => (∃ v, e = .returned (.bool v)) ∧ Moved w w' b s k true := by
  rw [part2 (q := (a, n, t)) ha, be_length] at hm
  have blt := h.lt
  have hX := Blk.new w 51 #[.int .u8 a, .int .u64 (n : Int), .string t]
  have cS := (three hX).2.1
  have HX := Lib.hid hX
  have H := Lib.hid h
  clear h hX
  go_enter Try.func23, Try.ntmps23
  go_wp2_with fail
  clear ha
  go_region_held3 (fun w' => w'.cell? ⟨w.heap.size, 1, none⟩ = some (.int .u64 (n : Int))) (first | exact cS | exact M1.1.cell (a := ⟨w.heap.size, 1, none⟩) cS (by simp; omega))
    (first | (go_at_call 27; refine (U32_f b s k _ hs hk hm (Blk.drew (Blk.alloc H.out _))).mono ?_; rintro e w1 ⟨rfl, M1⟩))
  go_wp2
  go_ret
  exact ⟨⟨_, rfl⟩, (World.grownBy_alloc w _ _).trans (only_undrew M1.1), M1.2⟩

set_option maxHeartbeats 1000000 in
theorem read3_t (a : Int) (n : Nat) (t : ByteArray) (a0 : 0 ≤ a) (a1 : a ≤ 255) (hn : n ≤ 18446744073709551615) (ht : t.size ≤ 9223372036854775807) (b : Nat) (s : ByteArray) (k : Nat) (hs : s.size ≤ 9223372036854775807) (hk : k ≤ s.size) (hsub : Sub s k (part (a, n, t))) (w : World) (h : Cur w b s k false) (ha : a % 5 = 3) :
    Calls Try.prog 23 #[.agg #[.int .u8 a, .int .u64 (n : Int), .string t], .pointer (some ⟨b, 0, none⟩)] w fun e w' => e = .returned (.bool true) ∧ Moved w w' b s (k + (part (a, n, t)).length) false := by
  rw [part3 (q := (a, n, t)) ha] at hsub ⊢
  rw [be_length]
  have hl := hsub.len hk
  rw [be_length] at hl
  have hv : (num s k 8 : Int) = (n : Int) := by rw [num_sub s k 8 n hsub]; omega
  have HV := Lib.hid hv
  clear hv hsub
  have blt := h.lt
  have hX := Blk.new w 51 #[.int .u8 a, .int .u64 (n : Int), .string t]
  have cS := (three hX).2.1
  have HX := Lib.hid hX
  have H := Lib.hid h
  clear h hX
  go_enter Try.func23, Try.ntmps23
  go_wp2_with fail
  clear ha
  go_region_held3 (fun w' => w'.cell? ⟨w.heap.size, 1, none⟩ = some (.int .u64 (n : Int))) (first | exact cS | exact M1.1.cell (a := ⟨w.heap.size, 1, none⟩) cS (by simp; omega))
    (first | (go_at_call 25; refine (answer (U64_t b s k _ hs hl (Blk.drew (Blk.alloc H.out _))) (val_int HV.out)).mono ?_; rintro e w1 ⟨rfl, M1⟩))
  go_wp2
  go_ret
  exact ⟨rfl, (World.grownBy_alloc w _ _).trans (only_undrew M1.1), M1.2⟩

set_option maxHeartbeats 1000000 in
theorem read3_f (a : Int) (n : Nat) (t : ByteArray) (a0 : 0 ≤ a) (a1 : a ≤ 255) (hn : n ≤ 18446744073709551615) (ht : t.size ≤ 9223372036854775807) (b : Nat) (s : ByteArray) (k : Nat) (hs : s.size ≤ 9223372036854775807) (hk : k ≤ s.size) (hm : s.size < k + (part (a, n, t)).length) (w : World) (h : Cur w b s k false) (ha : a % 5 = 3) :
    Calls Try.prog 23 #[.agg #[.int .u8 a, .int .u64 (n : Int), .string t], .pointer (some ⟨b, 0, none⟩)] w fun e w' => (∃ v, e = .returned (.bool v)) ∧ Moved w w' b s k true := by
  rw [part3 (q := (a, n, t)) ha, be_length] at hm
  have blt := h.lt
  have hX := Blk.new w 51 #[.int .u8 a, .int .u64 (n : Int), .string t]
  have cS := (three hX).2.1
  have HX := Lib.hid hX
  have H := Lib.hid h
  clear h hX
  go_enter Try.func23, Try.ntmps23
  go_wp2_with fail
  clear ha
  go_region_held3 (fun w' => w'.cell? ⟨w.heap.size, 1, none⟩ = some (.int .u64 (n : Int))) (first | exact cS | exact M1.1.cell (a := ⟨w.heap.size, 1, none⟩) cS (by simp; omega))
    (first | (go_at_call 25; refine (U64_f b s k _ hs hk hm (Blk.drew (Blk.alloc H.out _))).mono ?_; rintro e w1 ⟨rfl, M1⟩))
  go_wp2
  go_ret
  exact ⟨⟨_, rfl⟩, (World.grownBy_alloc w _ _).trans (only_undrew M1.1), M1.2⟩

set_option maxHeartbeats 1000000 in
theorem read4_t (a : Int) (n : Nat) (t : ByteArray) (a0 : 0 ≤ a) (a1 : a ≤ 255) (hn : n ≤ 18446744073709551615) (ht : t.size ≤ 9223372036854775807) (b : Nat) (s : ByteArray) (k : Nat) (hs : s.size ≤ 9223372036854775807) (hk : k ≤ s.size) (hsub : Sub s k (part (a, n, t))) (w : World) (h : Cur w b s k false) (ha : a % 5 = 4) :
    Calls Try.prog 23 #[.agg #[.int .u8 a, .int .u64 (n : Int), .string t], .pointer (some ⟨b, 0, none⟩)] w fun e w' => e = .returned (.bool true) ∧ Moved w w' b s (k + (part (a, n, t)).length) false := by
  rw [part4 (q := (a, n, t)) ha] at hsub ⊢
  have hl := hsub.len hk
  have hx := hsub.extract
  obtain ⟨m, hm0⟩ : ∃ m, m = (t.data.toList.take 20).length := ⟨_, rfl⟩
  have hm20 : m ≤ 20 := by rw [hm0, List.length_take]; omega
  obtain ⟨x, hx0⟩ : ∃ x : ByteArray, x = ⟨(t.data.toList.take 20).toArray⟩ := ⟨_, rfl⟩
  have hxs : x.size = m := by rw [hx0, hm0]; rfl
  rw [← hm0] at hl hx ⊢
  rw [← hx0] at hx
  have HX1 := Lib.hid hx
  clear hx hsub
  have HM0 := Lib.hid hm0
  have HX0 := Lib.hid hx0
  have blt := h.lt
  have hX := Blk.new w 51 #[.int .u8 a, .int .u64 (n : Int), .string t]
  have cS := three hX
  have HX := Lib.hid hX
  have H := Lib.hid h
  clear h hX hm0 hx0
  go_enter Try.func23, Try.ntmps23
  go_wp2_with fail
  clear ha
  go_region_held3 (fun w' => w'.cell? ⟨w.heap.size, 0, none⟩ = some (.int .u8 a) ∧ w'.cell? ⟨w.heap.size, 1, none⟩ = some (.int .u64 (n : Int)) ∧ w'.cell? ⟨w.heap.size, 2, none⟩ = some (.string t))
    (first | exact cS | exact three (Blk.alloc (Blk.drew HX.out) _) | exact three (Blk.grown (Blk.alloc (Blk.drew HX.out) _) M1.1 (by simp; omega)) | exact three (Blk.alloc (Blk.grown (Blk.alloc (Blk.drew HX.out) _) M1.1 (by simp; omega)) _))
    (first
      | (go_at_call 38; refine (answer (text_any a n t ht _) (congrArg Value.string HX0.out.symm)).mono ?_; rintro e w' ⟨rfl, rfl⟩)
      | (go_at_call 22; refine (answer (Take_t b s k m _ hs hl (Blk.alloc (Blk.drew (Blk.alloc H.out _)) _)) (congrArg Value.string HX1.out)).mono ?_; rintro e w1 ⟨rfl, M1⟩))
  go_wp2
  go_ret
  exact ⟨rfl, only_alloc ((only_alloc (only_drew (World.grownBy_alloc w _ _)) _).trans M1.1) _, Blk.alloc M1.2 _⟩

set_option maxHeartbeats 1000000 in
theorem read4_f (a : Int) (n : Nat) (t : ByteArray) (a0 : 0 ≤ a) (a1 : a ≤ 255) (hn : n ≤ 18446744073709551615) (ht : t.size ≤ 9223372036854775807) (b : Nat) (s : ByteArray) (k : Nat) (hs : s.size ≤ 9223372036854775807) (hk : k ≤ s.size) (hm : s.size < k + (part (a, n, t)).length) (w : World) (h : Cur w b s k false) (ha : a % 5 = 4) :
    Calls Try.prog 23 #[.agg #[.int .u8 a, .int .u64 (n : Int), .string t], .pointer (some ⟨b, 0, none⟩)] w fun e w' => (∃ v, e = .returned (.bool v)) ∧ Moved w w' b s k true := by
  rw [part4 (q := (a, n, t)) ha] at hm
  obtain ⟨m, hm0⟩ : ∃ m, m = (t.data.toList.take 20).length := ⟨_, rfl⟩
  have hm20 : m ≤ 20 := by rw [hm0, List.length_take]; omega
  obtain ⟨x, hx0⟩ : ∃ x : ByteArray, x = ⟨(t.data.toList.take 20).toArray⟩ := ⟨_, rfl⟩
  have hxs : x.size = m := by rw [hx0, hm0]; rfl
  rw [← hm0] at hm
  have HM0 := Lib.hid hm0
  have HX0 := Lib.hid hx0
  have blt := h.lt
  have hX := Blk.new w 51 #[.int .u8 a, .int .u64 (n : Int), .string t]
  have cS := three hX
  have HX := Lib.hid hX
  have H := Lib.hid h
  clear h hX hm0 hx0
  go_enter Try.func23, Try.ntmps23
  go_wp2_with fail
  clear ha
  go_region_held3 (fun w' => w'.cell? ⟨w.heap.size, 0, none⟩ = some (.int .u8 a) ∧ w'.cell? ⟨w.heap.size, 1, none⟩ = some (.int .u64 (n : Int)) ∧ w'.cell? ⟨w.heap.size, 2, none⟩ = some (.string t))
    (first | exact cS | exact three (Blk.alloc (Blk.drew HX.out) _) | exact three (Blk.grown (Blk.alloc (Blk.drew HX.out) _) M1.1 (by simp; omega)) | exact three (Blk.alloc (Blk.grown (Blk.alloc (Blk.drew HX.out) _) M1.1 (by simp; omega)) _))
    (first
      | (go_at_call 38; refine (answer (text_any a n t ht _) (congrArg Value.string HX0.out.symm)).mono ?_; rintro e w' ⟨rfl, rfl⟩)
      | (go_at_call 22; refine (Take_f b s k m _ hs hk (by omega) (Blk.alloc (Blk.drew (Blk.alloc H.out _)) _)).mono ?_; rintro e w1 ⟨rfl, M1⟩))
  go_wp2
  go_ret
  exact ⟨⟨_, rfl⟩, only_alloc ((only_alloc (only_drew (World.grownBy_alloc w _ _)) _).trans M1.1) _, Blk.alloc M1.2 _⟩

theorem part_read_t (a : Int) (n : Nat) (t : ByteArray) (a0 : 0 ≤ a) (a1 : a ≤ 255) (hn : n ≤ 18446744073709551615) (ht : t.size ≤ 9223372036854775807) (b : Nat) (s : ByteArray) (k : Nat) (hs : s.size ≤ 9223372036854775807) (hk : k ≤ s.size) (hsub : Sub s k (part (a, n, t))) (w : World) (h : Cur w b s k false) :
    Calls Try.prog 23 #[.agg #[.int .u8 a, .int .u64 (n : Int), .string t], .pointer (some ⟨b, 0, none⟩)] w fun e w' => e = .returned (.bool true) ∧ Moved w w' b s (k + (part (a, n, t)).length) false := by
  obtain g | g | g | g | g : a % 5 = 0 ∨ a % 5 = 1 ∨ a % 5 = 2 ∨ a % 5 = 3 ∨ a % 5 = 4 := by omega
  · exact read0_t a n t a0 a1 hn ht b s k hs hk hsub w h g
  · exact read1_t a n t a0 a1 hn ht b s k hs hk hsub w h g
  · exact read2_t a n t a0 a1 hn ht b s k hs hk hsub w h g
  · exact read3_t a n t a0 a1 hn ht b s k hs hk hsub w h g
  · exact read4_t a n t a0 a1 hn ht b s k hs hk hsub w h g

theorem part_read_f (a : Int) (n : Nat) (t : ByteArray) (a0 : 0 ≤ a) (a1 : a ≤ 255) (hn : n ≤ 18446744073709551615) (ht : t.size ≤ 9223372036854775807) (b : Nat) (s : ByteArray) (k : Nat) (hs : s.size ≤ 9223372036854775807) (hk : k ≤ s.size) (hm : s.size < k + (part (a, n, t)).length) (w : World) (h : Cur w b s k false) :
    Calls Try.prog 23 #[.agg #[.int .u8 a, .int .u64 (n : Int), .string t], .pointer (some ⟨b, 0, none⟩)] w fun e w' => (∃ v, e = .returned (.bool v)) ∧ Moved w w' b s k true := by
  obtain g | g | g | g | g : a % 5 = 0 ∨ a % 5 = 1 ∨ a % 5 = 2 ∨ a % 5 = 3 ∨ a % 5 = 4 := by omega
  · exact read0_f a n t a0 a1 hn ht b s k hs hk hm w h g
  · exact read1_f a n t a0 a1 hn ht b s k hs hk hm w h g
  · exact read2_f a n t a0 a1 hn ht b s k hs hk hm w h g
  · exact read3_f a n t a0 a1 hn ht b s k hs hk hm w h g
  · exact read4_f a n t a0 a1 hn ht b s k hs hk hm w h g
end Go.Proofs.Ytjkbajhmnfejgaa
