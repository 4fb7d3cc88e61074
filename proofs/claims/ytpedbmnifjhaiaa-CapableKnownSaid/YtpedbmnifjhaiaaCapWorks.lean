/-
  What lays, none and works of plaitlaw09 answer, each by its walk.
-/
import Derived.Test.YtpedbmnifjhaiaaCapEnc
import Derived.Test.YtpedbmnifjhaiaaCapDec
import Derived.Test.YtpedbmnifjhaiaaRepeat
import Derived.BigFrame
namespace Go.Proofs.Ytpedbmnifjhaiaa
open Go.ChangeShapes Go.WideShapes Go.ChangeAt Go.RowKit
set_option linter.unusedVariables false

/-- A whole row is loaded, where the guard lets it be. -/
theorem wpList_load_row_w {P : Program} {ops : Array Oper} {rest : List Oper} {o : Oper} {a : Act} {w : World} {Q : Exit → Act → World → Prop} (hw : Region.wanted o (yielded ops a.tmps) = true) (ty : TypeId) (x : Operand) (ho : o.op = .load ty x)
    (g : Nat) (hx : a.eval x = .pointer (some ⟨g, 0, none⟩)) (t : TypeId) (cs : Array Value) (fr : Nat × Nat) (d : TypeDesc) (hg : w.heap[g]? = some (.cells cs t fr))
    (hu : P.underlying ty = some d) (hd : (match d with | .struct _ | .array _ _ => true | _ => false) = true) (hi : (P.info? ty).map (·.size) = some cs.size)
    (h : wpList P ops Q rest (a.put o.dst (.agg cs)) w) : wpList P ops Q (o :: rest) a w :=
  BigFrame.wpList_want hw fun _ hK => wp_load_row ty x ho g hx t cs fr d hg hu hd hi (hK _ _ h)

theorem lays_t (x : Cap) (hx : x.Ok) (hm : x.May) (want : ByteArray) (hw : txt x.body = want) (w : World) :
    Calls Try.prog 16 #[.agg (capv x), .string want] w fun e w' => e = .returned (.bool true) ∧ Below w.heap.size w w' := by
  have HX := Lib.hid hx
  have HC := Lib.hid (Blk.new w 25 (capv x))
  have HB := Lib.hid ((Below.refl _ w).alloc (Nat.le_refl _) (.cells (capv x) 25))
  have HE := Lib.hid (show encV x = .tuple #[.string want, .int .i64 0] by rw [encV_t x hm, hw])
  clear hx hm hw
  go_enter Try.func16, Try.ntmps16
  go_wp2_with (refine wpList_load_row rfl 25 _ rfl w.heap.size rfl 25 (capv x) (0, 0) _ ?_ Try.underlying25 rfl cap_size ?_; exact HC.out)
  refine (Encode_any x HX.out _).mono ?_
  rintro e W ⟨rfl, b⟩
  rw [HE.out]
  have HBW := Lib.hid (HB.out.trans (b.mono HB.out.size))
  clear b
  go_wp2_with fail
  go_ret; exact ⟨rfl, HBW.out⟩
theorem none_t (s : ByteArray) (hs : s.size ≤ 9223372036854775807) (c : Int) (hd : dec s = (.zero, c)) (w : World) :
    Calls Try.prog 15 #[.string s, .int .i64 c] w fun e w' => e = .returned (.bool true) ∧ Below w.heap.size w w' := by
  have HE := Lib.hid (show decV s = .tuple #[.agg (capv Cap.zero), .int .i64 c] by rw [decV, hd])
  clear hd
  go_enter Try.func15, Try.ntmps15
  go_wp2_with fail
  refine (Decode_any s w hs).mono ?_
  rintro e W ⟨rfl, b⟩
  rw [HE.out]
  have HB := Lib.hid b
  have HZ := Lib.hid (Blk.new W 25 (capv Cap.zero))
  clear b
  go_wp2_with (refine wpList_load_row rfl 25 _ rfl W.heap.size rfl 25 (capv Cap.zero) (0, 0) _ ?_ Try.underlying25 rfl cap_size ?_; exact HZ.out)
  go_ret; exact ⟨rfl, HB.out.alloc HB.out.size _⟩

theorem rep_any (c : UInt8) (n : Nat) (hn : n ≤ 1000) (t : ByteArray) (ht : txt (List.replicate n c) = t) (N : Int) (hN : N = (n : Int)) (w : World) :
    Calls Try.prog 14 #[.string ⟨#[c]⟩, .int .i64 N] w fun e w' => e = .returned (.string t) ∧ Below w.heap.size w w' := by
  subst hN ht
  have h := Try.strings_Repeat ⟨#[c]⟩ n w (by omega) (by show 1 * n ≤ _; omega)
  have e : ∀ k, Lib.repeatL (⟨#[c]⟩ : ByteArray).data.toList k = List.replicate k c := by
    intro k
    induction k with
    | zero => rfl
    | succ k ih => rw [Lib.repeatL, ih, List.replicate_succ]; rfl
  rw [e] at h
  exact h

/-- The chapter's options. -/
def cap1 : Cap := ⟨0, 1, true, false, 0, 0, 0, 0⟩
def cap2 : Cap := ⟨1, 1, false, false, 258, 0, 0, 0⟩
def cap3 : Cap := ⟨4, 1, false, true, 1, 2, 3, 4⟩
theorem cap1_ok : cap1.Ok := ⟨by decide, by decide, by decide, by decide, by decide, by decide⟩
theorem cap2_ok : cap2.Ok := ⟨by decide, by decide, by decide, by decide, by decide, by decide⟩
theorem cap3_ok : cap3.Ok := ⟨by decide, by decide, by decide, by decide, by decide, by decide⟩
theorem cap1_may : cap1.May := by decide
theorem cap2_may : cap2.May := by decide
theorem cap3_may : cap3.May := by decide
theorem lays1 (w : World) : Calls Try.prog 16 #[.agg #[.int .i64 0, .int .i64 1, .bool true, .bool false, .int .u64 0, .int .u64 0, .int .i64 0, .int .u16 0], .string ⟨#[1, 129]⟩] w fun e w' => e = .returned (.bool true) ∧ Below w.heap.size w w' := lays_t cap1 cap1_ok cap1_may _ (by decide) w
theorem lays2 (w : World) : Calls Try.prog 16 #[.agg #[.int .i64 1, .int .i64 1, .bool false, .bool false, .int .u64 258, .int .u64 0, .int .i64 0, .int .u16 0], .string ⟨#[1, 1, 0, 0, 0, 0, 0, 0, 1, 2]⟩] w fun e w' => e = .returned (.bool true) ∧ Below w.heap.size w w' := lays_t cap2 cap2_ok cap2_may _ (by decide) w
theorem lays3 (t : ByteArray) (ht : t = ⟨#[1, 33, 0, 0, 0, 0, 0, 0, 0, 1, 0, 0, 0, 0, 0, 0, 0, 2, 0, 3, 0, 4]⟩) (w : World) : Calls Try.prog 16 #[.agg #[.int .i64 4, .int .i64 1, .bool false, .bool true, .int .u64 1, .int .u64 2, .int .i64 3, .int .u16 4], .string t] w fun e w' => e = .returned (.bool true) ∧ Below w.heap.size w w' := lays_t cap3 cap3_ok cap3_may _ (by rw [ht]; decide) w
theorem none1 (w : World) : Calls Try.prog 15 #[.string ⟨#[]⟩, .int .i64 4] w fun e w' => e = .returned (.bool true) ∧ Below w.heap.size w w' := none_t _ (by decide) 4 (by kernel_rfl) w
theorem none2 (w : World) : Calls Try.prog 15 #[.string ⟨#[17, 1]⟩, .int .i64 7] w fun e w' => e = .returned (.bool true) ∧ Below w.heap.size w w' := none_t _ (by decide) 7 (by kernel_rfl) w
theorem none3 (w : World) : Calls Try.prog 15 #[.string ⟨#[1, 1, 0]⟩, .int .i64 5] w fun e w' => e = .returned (.bool true) ∧ Below w.heap.size w w' := none_t _ (by decide) 5 (by kernel_rfl) w
theorem none4 (w : World) : Calls Try.prog 15 #[.string ⟨#[1, 128]⟩, .int .i64 2] w fun e w' => e = .returned (.bool true) ∧ Below w.heap.size w w' := none_t _ (by decide) 2 (by kernel_rfl) w

set_option maxHeartbeats 4000000 in
set_option maxRecDepth 100000 in
theorem works_t (w : World) : Calls Try.prog 11 #[] w fun e w' => e = .returned (.bool true) ∧ Below w.heap.size w w' := by
  go_enter Try.func11, Try.ntmps11
  go_wp2_with fail
  refine (rep_any 0 7 (by decide) ⟨#[0, 0, 0, 0, 0, 0, 0]⟩ (by decide) _ rfl _).mono ?_
  rintro e W1 ⟨rfl, b⟩
  have HB1 := Lib.hid b
  clear b
  obtain ⟨Z, hZ⟩ : ∃ Z : ByteArray, Z = ⟨#[0, 0, 0, 0, 0, 0, 0]⟩ := ⟨_, rfl⟩
  rw [← hZ]
  have HZ := Lib.hid hZ
  have hzz : Z.size = 7 := by rw [hZ]; rfl
  clear hZ
  go_wp2_with fail
  obtain ⟨g, hg⟩ : ∃ g, g = W1.heap.size := ⟨_, rfl⟩
  obtain ⟨W2, hW2⟩ : ∃ W2, W2 = W1.alloc (.cells (capv cap3) 25) := ⟨_, rfl⟩
  have HC2 := Lib.hid (show Blk W2 g 25 (capv cap3) by rw [hW2, hg]; exact Blk.new _ _ _)
  have HB2 := Lib.hid (show Below w.heap.size w W2 by rw [hW2]; exact HB1.out.alloc HB1.out.size _)
  change Calls _ _ _ (W1.alloc (.cells (capv cap3) 25)) _
  rw [← hW2, ← hg]
  clear hW2 hg
  have HD := Lib.hid (show decV ⟨#[1, 223]⟩ = .tuple #[.agg #[.int .i64 0, .int .i64 1, .bool true, .bool false, .int .u64 0, .int .u64 0, .int .i64 0, .int .u16 0], .int .i64 0] by kernel_rfl)
  refine (Decode_any ⟨#[1, 223]⟩ W2 (by decide)).mono ?_
  rintro e W3 ⟨rfl, b⟩
  rw [HD.out]
  have HB3 := Lib.hid (HB2.out.trans (b.mono HB2.out.size))
  have HC3 := Lib.hid (HC2.out.below b HC2.out.lt)
  clear b HB1 HB2 HC2
  go_wp2_with fail
  obtain ⟨h, hh⟩ : ∃ h, h = W3.heap.size := ⟨_, rfl⟩
  obtain ⟨W4, hW4⟩ : ∃ W4, W4 = W3.alloc (.cells #[.int .i64 0, .int .i64 1, .bool true, .bool false, .int .u64 0, .int .u64 0, .int .i64 0, .int .u16 0] 25) := ⟨_, rfl⟩
  have HG4 := Lib.hid (show Blk W4 g 25 #[.int .i64 4, .int .i64 1, .bool false, .bool true, .int .u64 1, .int .u64 2, .int .i64 3, .int .u16 4] by rw [hW4]; exact HC3.out.alloc _)
  have HH4 := Lib.hid (show Blk W4 h 25 #[.int .i64 0, .int .i64 1, .bool true, .bool false, .int .u64 0, .int .u64 0, .int .i64 0, .int .u16 0] by rw [hW4, hh]; exact Blk.new _ _ _)
  have HB4 := Lib.hid (show Below w.heap.size w W4 by rw [hW4]; exact HB3.out.alloc HB3.out.size _)
  rw [← hW4, ← hh]
  clear hW4 hh HB3 HC3
  refine (lays1 W4).mono ?_
  rintro e W5 ⟨rfl, b⟩
  have HB5 := Lib.hid (HB4.out.trans (b.mono HB4.out.size))
  have HG5 := Lib.hid (HG4.out.below b HG4.out.lt)
  have HH5 := Lib.hid (HH4.out.below b HH4.out.lt)
  clear b HB4 HG4 HH4
  go_wp2_with fail
  refine (lays2 W5).mono ?_
  rintro e W6 ⟨rfl, b⟩
  have HB6 := Lib.hid (HB5.out.trans (b.mono HB5.out.size))
  have HG6 := Lib.hid (HG5.out.below b HG5.out.lt)
  have HH6 := Lib.hid (HH5.out.below b HH5.out.lt)
  clear b HB5 HG5 HH5
  go_wp2_with (first
    | (refine wpList_load_row_w (by rfl) 25 _ rfl g rfl 25 #[.int .i64 4, .int .i64 1, .bool false, .bool true, .int .u64 1, .int .u64 2, .int .i64 3, .int .u16 4] (0, 0) _ ?_ Try.underlying25 rfl cap_size ?_; exact HG6.out)
    | (refine wpList_load_row_w (by rfl) 25 _ rfl h rfl 25 #[.int .i64 0, .int .i64 1, .bool true, .bool false, .int .u64 0, .int .u64 0, .int .i64 0, .int .u16 0] (0, 0) _ ?_ Try.underlying25 rfl cap_size ?_; exact HH6.out))
  refine (lays3 _ (by rw [HZ.out]; decide) W6).mono ?_
  rintro e W7 ⟨rfl, b⟩
  have HB7 := Lib.hid (HB6.out.trans (b.mono HB6.out.size))
  have HG7 := Lib.hid (HG6.out.below b HG6.out.lt)
  have HH7 := Lib.hid (HH6.out.below b HH6.out.lt)
  clear b HB6 HG6 HH6
  go_wp2_with (first
    | (refine wpList_load_row_w (by rfl) 25 _ rfl g rfl 25 #[.int .i64 4, .int .i64 1, .bool false, .bool true, .int .u64 1, .int .u64 2, .int .i64 3, .int .u16 4] (0, 0) _ ?_ Try.underlying25 rfl cap_size ?_; exact HG7.out)
    | (refine wpList_load_row_w (by rfl) 25 _ rfl h rfl 25 #[.int .i64 0, .int .i64 1, .bool true, .bool false, .int .u64 0, .int .u64 0, .int .i64 0, .int .u16 0] (0, 0) _ ?_ Try.underlying25 rfl cap_size ?_; exact HH7.out))
  refine (none1 W7).mono ?_
  rintro e W8 ⟨rfl, b⟩
  have HB8 := Lib.hid (HB7.out.trans (b.mono HB7.out.size))
  have HG8 := Lib.hid (HG7.out.below b HG7.out.lt)
  have HH8 := Lib.hid (HH7.out.below b HH7.out.lt)
  clear b HB7 HG7 HH7
  go_wp2_with fail
  refine (none2 W8).mono ?_
  rintro e W9 ⟨rfl, b⟩
  have HB9 := Lib.hid (HB8.out.trans (b.mono HB8.out.size))
  have HG9 := Lib.hid (HG8.out.below b HG8.out.lt)
  have HH9 := Lib.hid (HH8.out.below b HH8.out.lt)
  clear b HB8 HG8 HH8
  go_wp2_with fail
  refine (none3 W9).mono ?_
  rintro e W10 ⟨rfl, b⟩
  have HB10 := Lib.hid (HB9.out.trans (b.mono HB9.out.size))
  have HG10 := Lib.hid (HG9.out.below b HG9.out.lt)
  have HH10 := Lib.hid (HH9.out.below b HH9.out.lt)
  clear b HB9 HG9 HH9
  go_wp2_with fail
  refine (none4 W10).mono ?_
  rintro e W11 ⟨rfl, b⟩
  have HB11 := Lib.hid (HB10.out.trans (b.mono HB10.out.size))
  have HG11 := Lib.hid (HG10.out.below b HG10.out.lt)
  have HH11 := Lib.hid (HH10.out.below b HH10.out.lt)
  clear b HB10 HG10 HH10
  go_wp2_with fail
  go_ret; exact ⟨rfl, HB11.out⟩
end Go.Proofs.Ytpedbmnifjhaiaa
