/-
  What lays, none and works of plaitlaw11 answer, each by its walk.
-/
import Derived.Test.YtdhkjhkgjfcolaaDssEnc
import Derived.Test.YtdhkjhkgjfcolaaDssDec
import Derived.Test.YtdhkjhkgjfcolaaRepeat
import Derived.BigFrame
namespace Go.Proofs.Ytdhkjhkgjfcolaa
open Go.ChangeShapes Go.WideShapes Go.ChangeAt Go.RowKit
set_option linter.unusedVariables false

/-- A whole row is loaded, where the guard lets it be. -/
theorem wpList_load_row_w {P : Program} {ops : Array Oper} {rest : List Oper} {o : Oper} {a : Act} {w : World} {Q : Exit → Act → World → Prop} (hw : Region.wanted o (yielded ops a.tmps) = true) (ty : TypeId) (x : Operand) (ho : o.op = .load ty x)
    (g : Nat) (hx : a.eval x = .pointer (some ⟨g, 0, none⟩)) (t : TypeId) (cs : Array Value) (fr : Nat × Nat) (d : TypeDesc) (hg : w.heap[g]? = some (.cells cs t fr))
    (hu : P.underlying ty = some d) (hd : (match d with | .struct _ | .array _ _ => true | _ => false) = true) (hi : (P.info? ty).map (·.size) = some cs.size)
    (h : wpList P ops Q rest (a.put o.dst (.agg cs)) w) : wpList P ops Q (o :: rest) a w :=
  BigFrame.wpList_want hw fun _ hK => wp_load_row ty x ho g hx t cs fr d hg hu hd hi (hK _ _ h)

theorem lays_t (x : Ds) (hx : x.Ok) (hm : x.May) (want : ByteArray) (hw : txt x.body = want) (w : World) :
    Calls Try.prog 17 #[.agg (dsv x), .string want] w fun e w' => e = .returned (.bool true) ∧ Below w.heap.size w w' := by
  have HX := Lib.hid hx
  have HC := Lib.hid (Blk.new w 26 (dsv x))
  have HB := Lib.hid ((Below.refl _ w).alloc (Nat.le_refl _) (.cells (dsv x) 26))
  have HE := Lib.hid (show encV x = .tuple #[.string want, .int .i64 0] by rw [encV_t x hm, hw])
  clear hx hm hw
  go_enter Try.func17, Try.ntmps17
  go_wp2_with (refine wpList_load_row rfl 26 _ rfl w.heap.size rfl 26 (dsv x) (0, 0) _ ?_ Try.underlying26 rfl ds_size ?_; exact HC.out)
  refine (Encode_any x HX.out _).mono ?_
  rintro e W ⟨rfl, b⟩
  rw [HE.out]
  have HBW := Lib.hid (HB.out.trans (b.mono HB.out.size))
  clear b
  go_wp2_with fail
  go_ret; exact ⟨rfl, HBW.out⟩
theorem none_t (s : ByteArray) (hs : s.size ≤ 9223372036854775807) (c : Int) (hd : dec s = (.zero, c)) (w : World) :
    Calls Try.prog 16 #[.string s, .int .i64 c] w fun e w' => e = .returned (.bool true) ∧ Below w.heap.size w w' := by
  have HE := Lib.hid (show decV s = .tuple #[.agg (dsv Ds.zero), .int .i64 c] by rw [decV, hd])
  clear hd
  go_enter Try.func16, Try.ntmps16
  go_wp2_with fail
  refine (Decode_any s w hs).mono ?_
  rintro e W ⟨rfl, b⟩
  rw [HE.out]
  have HB := Lib.hid b
  have HZ := Lib.hid (Blk.new W 26 (dsv Ds.zero))
  clear b
  go_wp2_with (refine wpList_load_row_w (by rfl) 26 _ rfl W.heap.size rfl 26 (dsv Ds.zero) (0, 0) _ ?_ Try.underlying26 rfl ds_size ?_; exact HZ.out)
  go_ret; exact ⟨rfl, HB.out.alloc HB.out.size _⟩

theorem rep_any (c : UInt8) (n : Nat) (hn : n ≤ 1000) (t : ByteArray) (ht : txt (List.replicate n c) = t) (N : Int) (hN : N = (n : Int)) (w : World) :
    Calls Try.prog 15 #[.string ⟨#[c]⟩, .int .i64 N] w fun e w' => e = .returned (.string t) ∧ Below w.heap.size w w' := by
  subst hN ht
  have h := Try.strings_Repeat ⟨#[c]⟩ n w (by omega) (by show 1 * n ≤ _; omega)
  have e : ∀ k, Lib.repeatL (⟨#[c]⟩ : ByteArray).data.toList k = List.replicate k c := by
    intro k
    induction k with
    | zero => rfl
    | succ k ih => rw [Lib.repeatL, ih, List.replicate_succ]; rfl
  rw [e] at h
  exact h
/-- The chapter's signals. -/
def d1 : Ds := ⟨false, true, false, 258, false, false, 0, 0, 0, false, 0⟩
theorem d1_ok : d1.Ok := ⟨by decide, by decide, by decide, by decide, by decide⟩
theorem d1_may : d1.May := by decide
def d2 : Ds := ⟨false, true, true, 1, true, false, 2, 3, 4, false, 0⟩
theorem d2_ok : d2.Ok := ⟨by decide, by decide, by decide, by decide, by decide⟩
theorem d2_may : d2.May := by decide
def d3 : Ds := ⟨true, false, false, 0, true, true, 5, 0, 1, true, 6⟩
theorem d3_ok : d3.Ok := ⟨by decide, by decide, by decide, by decide, by decide⟩
theorem d3_may : d3.May := by decide
theorem lays1 (t : ByteArray) (ht : t = ⟨#[32, 1, 0, 0, 1, 2]⟩) (w : World) : Calls Try.prog 17 #[.agg #[.bool false, .bool true, .bool false, .int .u64 258, .bool false, .bool false, .int .u64 0, .int .u32 0, .int .i64 0, .bool false, .int .u16 0], .string t] w fun e w' => e = .returned (.bool true) ∧ Below w.heap.size w w' := lays_t d1 d1_ok d1_may _ (by rw [ht]; decide) w
theorem lays2 (t : ByteArray) (ht : t = ⟨#[32, 7, 0, 0, 0, 0, 0, 0, 0, 1, 0, 0, 0, 2, 0, 0, 0, 3, 0, 4]⟩) (w : World) : Calls Try.prog 17 #[.agg #[.bool false, .bool true, .bool true, .int .u64 1, .bool true, .bool false, .int .u64 2, .int .u32 3, .int .i64 4, .bool false, .int .u16 0], .string t] w fun e w' => e = .returned (.bool true) ∧ Below w.heap.size w w' := lays_t d2 d2_ok d2_may _ (by rw [ht]; decide) w
theorem lays3 (t : ByteArray) (ht : t = ⟨#[32, 28, 0, 0, 0, 0, 0, 0, 0, 5, 0, 0, 0, 0, 0, 1, 0, 6]⟩) (w : World) : Calls Try.prog 17 #[.agg #[.bool true, .bool false, .bool false, .int .u64 0, .bool true, .bool true, .int .u64 5, .int .u32 0, .int .i64 1, .bool true, .int .u16 6], .string t] w fun e w' => e = .returned (.bool true) ∧ Below w.heap.size w w' := lays_t d3 d3_ok d3_may _ (by rw [ht]; decide) w
theorem none1 (w : World) : Calls Try.prog 16 #[.string ⟨#[32]⟩, .int .i64 4] w fun e w' => e = .returned (.bool true) ∧ Below w.heap.size w w' := none_t _ (by decide) 4 (by kernel_rfl) w
theorem none2 (w : World) : Calls Try.prog 16 #[.string ⟨#[48, 1]⟩, .int .i64 7] w fun e w' => e = .returned (.bool true) ∧ Below w.heap.size w w' := none_t _ (by decide) 7 (by kernel_rfl) w
theorem none3 (w : World) : Calls Try.prog 16 #[.string ⟨#[32, 0]⟩, .int .i64 5] w fun e w' => e = .returned (.bool true) ∧ Below w.heap.size w w' := none_t _ (by decide) 5 (by kernel_rfl) w
theorem none4 (w : World) : Calls Try.prog 16 #[.string ⟨#[32, 1, 0]⟩, .int .i64 4] w fun e w' => e = .returned (.bool true) ∧ Below w.heap.size w w' := none_t _ (by decide) 4 (by kernel_rfl) w
theorem none5 (w : World) : Calls Try.prog 16 #[.string ⟨#[32, 1, 0, 0, 0, 0, 0]⟩, .int .i64 5] w fun e w' => e = .returned (.bool true) ∧ Below w.heap.size w w' := none_t _ (by decide) 5 (by kernel_rfl) w
set_option maxHeartbeats 4000000 in
set_option maxRecDepth 100000 in
theorem works_t (w : World) : Calls Try.prog 12 #[] w fun e w' => e = .returned (.bool true) ∧ Below w.heap.size w w' := by
  go_enter Try.func12, Try.ntmps12
  go_wp2_with fail
  refine (rep_any 0 7 (by decide) ⟨#[0, 0, 0, 0, 0, 0, 0]⟩ (by decide) _ rfl _).mono ?_
  rintro e W1 ⟨rfl, b⟩
  have HB1 := Lib.hid b
  clear b
  obtain ⟨Z, hZ⟩ : ∃ Z : ByteArray, Z = ⟨#[0, 0, 0, 0, 0, 0, 0]⟩ := ⟨_, rfl⟩
  rw [← hZ]
  have HZ := Lib.hid hZ
  have hzz : Z.size = 7 := by rw [hZ]; rfl
  obtain ⟨g, hg⟩ : ∃ g, g = W1.heap.size := ⟨_, rfl⟩
  obtain ⟨h, hh⟩ : ∃ h, h = W1.heap.size + 1 := ⟨_, rfl⟩
  obtain ⟨W2, hW2⟩ : ∃ W2, W2 = (W1.alloc (.cells #[.bool false, .bool true, .bool true, .int .u64 1, .bool true, .bool false, .int .u64 2, .int .u32 3, .int .i64 4, .bool false, .int .u16 0] 26)).alloc (.cells #[.bool true, .bool false, .bool false, .int .u64 0, .bool true, .bool true, .int .u64 5, .int .u32 0, .int .i64 1, .bool true, .int .u16 6] 26) := ⟨_, rfl⟩
  have HG2 := Lib.hid (show Blk W2 g 26 #[.bool false, .bool true, .bool true, .int .u64 1, .bool true, .bool false, .int .u64 2, .int .u32 3, .int .i64 4, .bool false, .int .u16 0] by rw [hW2, hg]; exact (Blk.new _ _ _).alloc _)
  have HH2 := Lib.hid (show Blk W2 h 26 #[.bool true, .bool false, .bool false, .int .u64 0, .bool true, .bool true, .int .u64 5, .int .u32 0, .int .i64 1, .bool true, .int .u16 6] by
    rw [hW2, hh]
    have q := Blk.new (W1.alloc (.cells #[.bool false, .bool true, .bool true, .int .u64 1, .bool true, .bool false, .int .u64 2, .int .u32 3, .int .i64 4, .bool false, .int .u16 0] 26)) 26 #[.bool true, .bool false, .bool false, .int .u64 0, .bool true, .bool true, .int .u64 5, .int .u32 0, .int .i64 1, .bool true, .int .u16 6]
    rwa [show (W1.alloc (.cells #[.bool false, .bool true, .bool true, .int .u64 1, .bool true, .bool false, .int .u64 2, .int .u32 3, .int .i64 4, .bool false, .int .u16 0] 26)).heap.size = W1.heap.size + 1 by simp] at q)
  have HB2 := Lib.hid (show Below w.heap.size w W2 by rw [hW2]; exact (HB1.out.alloc HB1.out.size _).alloc (by have := HB1.out.size; simp; omega) _)
  have HWE := Lib.hid hW2
  have HGE := Lib.hid hg
  have HHE := Lib.hid hh
  clear hZ hg hh hW2
  go_wp2_with fail
  rw [← HWE.out, ← HHE.out, ← HGE.out]
  clear HWE HGE HHE HB1
  refine (lays1 _ rfl W2).mono ?_
  rintro e W3 ⟨rfl, b⟩
  have HB3 := Lib.hid (HB2.out.trans (b.mono HB2.out.size))
  have HG3 := Lib.hid (HG2.out.below b HG2.out.lt)
  have HH3 := Lib.hid (HH2.out.below b HH2.out.lt)
  clear b HB2 HG2 HH2
  go_wp2_with (first
    | (refine wpList_load_row_w (by rfl) 26 _ rfl g rfl 26 #[.bool false, .bool true, .bool true, .int .u64 1, .bool true, .bool false, .int .u64 2, .int .u32 3, .int .i64 4, .bool false, .int .u16 0] (0, 0) _ ?_ Try.underlying26 rfl ds_size ?_; exact HG3.out)
    | (refine wpList_load_row_w (by rfl) 26 _ rfl h rfl 26 #[.bool true, .bool false, .bool false, .int .u64 0, .bool true, .bool true, .int .u64 5, .int .u32 0, .int .i64 1, .bool true, .int .u16 6] (0, 0) _ ?_ Try.underlying26 rfl ds_size ?_; exact HH3.out))
  refine (lays2 _ (by rw [HZ.out]; decide) W3).mono ?_
  rintro e W4 ⟨rfl, b⟩
  have HB4 := Lib.hid (HB3.out.trans (b.mono HB3.out.size))
  have HG4 := Lib.hid (HG3.out.below b HG3.out.lt)
  have HH4 := Lib.hid (HH3.out.below b HH3.out.lt)
  clear b HB3 HG3 HH3
  go_wp2_with (first
    | (refine wpList_load_row_w (by rfl) 26 _ rfl g rfl 26 #[.bool false, .bool true, .bool true, .int .u64 1, .bool true, .bool false, .int .u64 2, .int .u32 3, .int .i64 4, .bool false, .int .u16 0] (0, 0) _ ?_ Try.underlying26 rfl ds_size ?_; exact HG4.out)
    | (refine wpList_load_row_w (by rfl) 26 _ rfl h rfl 26 #[.bool true, .bool false, .bool false, .int .u64 0, .bool true, .bool true, .int .u64 5, .int .u32 0, .int .i64 1, .bool true, .int .u16 6] (0, 0) _ ?_ Try.underlying26 rfl ds_size ?_; exact HH4.out))
  refine (lays3 _ (by rw [HZ.out]; decide) W4).mono ?_
  rintro e W5 ⟨rfl, b⟩
  have HB5 := Lib.hid (HB4.out.trans (b.mono HB4.out.size))
  have HG5 := Lib.hid (HG4.out.below b HG4.out.lt)
  have HH5 := Lib.hid (HH4.out.below b HH4.out.lt)
  clear b HB4 HG4 HH4
  go_wp2_with (first
    | (refine wpList_load_row_w (by rfl) 26 _ rfl g rfl 26 #[.bool false, .bool true, .bool true, .int .u64 1, .bool true, .bool false, .int .u64 2, .int .u32 3, .int .i64 4, .bool false, .int .u16 0] (0, 0) _ ?_ Try.underlying26 rfl ds_size ?_; exact HG5.out)
    | (refine wpList_load_row_w (by rfl) 26 _ rfl h rfl 26 #[.bool true, .bool false, .bool false, .int .u64 0, .bool true, .bool true, .int .u64 5, .int .u32 0, .int .i64 1, .bool true, .int .u16 6] (0, 0) _ ?_ Try.underlying26 rfl ds_size ?_; exact HH5.out))
  refine (none1 W5).mono ?_
  rintro e W6 ⟨rfl, b⟩
  have HB6 := Lib.hid (HB5.out.trans (b.mono HB5.out.size))
  have HG6 := Lib.hid (HG5.out.below b HG5.out.lt)
  have HH6 := Lib.hid (HH5.out.below b HH5.out.lt)
  clear b HB5 HG5 HH5
  go_wp2_with (first
    | (refine wpList_load_row_w (by rfl) 26 _ rfl g rfl 26 #[.bool false, .bool true, .bool true, .int .u64 1, .bool true, .bool false, .int .u64 2, .int .u32 3, .int .i64 4, .bool false, .int .u16 0] (0, 0) _ ?_ Try.underlying26 rfl ds_size ?_; exact HG6.out)
    | (refine wpList_load_row_w (by rfl) 26 _ rfl h rfl 26 #[.bool true, .bool false, .bool false, .int .u64 0, .bool true, .bool true, .int .u64 5, .int .u32 0, .int .i64 1, .bool true, .int .u16 6] (0, 0) _ ?_ Try.underlying26 rfl ds_size ?_; exact HH6.out))
  refine (none2 W6).mono ?_
  rintro e W7 ⟨rfl, b⟩
  have HB7 := Lib.hid (HB6.out.trans (b.mono HB6.out.size))
  have HG7 := Lib.hid (HG6.out.below b HG6.out.lt)
  have HH7 := Lib.hid (HH6.out.below b HH6.out.lt)
  clear b HB6 HG6 HH6
  go_wp2_with (first
    | (refine wpList_load_row_w (by rfl) 26 _ rfl g rfl 26 #[.bool false, .bool true, .bool true, .int .u64 1, .bool true, .bool false, .int .u64 2, .int .u32 3, .int .i64 4, .bool false, .int .u16 0] (0, 0) _ ?_ Try.underlying26 rfl ds_size ?_; exact HG7.out)
    | (refine wpList_load_row_w (by rfl) 26 _ rfl h rfl 26 #[.bool true, .bool false, .bool false, .int .u64 0, .bool true, .bool true, .int .u64 5, .int .u32 0, .int .i64 1, .bool true, .int .u16 6] (0, 0) _ ?_ Try.underlying26 rfl ds_size ?_; exact HH7.out))
  refine (none3 W7).mono ?_
  rintro e W8 ⟨rfl, b⟩
  have HB8 := Lib.hid (HB7.out.trans (b.mono HB7.out.size))
  have HG8 := Lib.hid (HG7.out.below b HG7.out.lt)
  have HH8 := Lib.hid (HH7.out.below b HH7.out.lt)
  clear b HB7 HG7 HH7
  go_wp2_with (first
    | (refine wpList_load_row_w (by rfl) 26 _ rfl g rfl 26 #[.bool false, .bool true, .bool true, .int .u64 1, .bool true, .bool false, .int .u64 2, .int .u32 3, .int .i64 4, .bool false, .int .u16 0] (0, 0) _ ?_ Try.underlying26 rfl ds_size ?_; exact HG8.out)
    | (refine wpList_load_row_w (by rfl) 26 _ rfl h rfl 26 #[.bool true, .bool false, .bool false, .int .u64 0, .bool true, .bool true, .int .u64 5, .int .u32 0, .int .i64 1, .bool true, .int .u16 6] (0, 0) _ ?_ Try.underlying26 rfl ds_size ?_; exact HH8.out))
  refine (none4 W8).mono ?_
  rintro e W9 ⟨rfl, b⟩
  have HB9 := Lib.hid (HB8.out.trans (b.mono HB8.out.size))
  have HG9 := Lib.hid (HG8.out.below b HG8.out.lt)
  have HH9 := Lib.hid (HH8.out.below b HH8.out.lt)
  clear b HB8 HG8 HH8
  go_wp2_with (first
    | (refine wpList_load_row_w (by rfl) 26 _ rfl g rfl 26 #[.bool false, .bool true, .bool true, .int .u64 1, .bool true, .bool false, .int .u64 2, .int .u32 3, .int .i64 4, .bool false, .int .u16 0] (0, 0) _ ?_ Try.underlying26 rfl ds_size ?_; exact HG9.out)
    | (refine wpList_load_row_w (by rfl) 26 _ rfl h rfl 26 #[.bool true, .bool false, .bool false, .int .u64 0, .bool true, .bool true, .int .u64 5, .int .u32 0, .int .i64 1, .bool true, .int .u16 6] (0, 0) _ ?_ Try.underlying26 rfl ds_size ?_; exact HH9.out))
  refine (none5 W9).mono ?_
  rintro e W10 ⟨rfl, b⟩
  have HB10 := Lib.hid (HB9.out.trans (b.mono HB9.out.size))
  have HG10 := Lib.hid (HG9.out.below b HG9.out.lt)
  have HH10 := Lib.hid (HH9.out.below b HH9.out.lt)
  clear b HB9 HG9 HH9
  go_wp2_with (first
    | (refine wpList_load_row_w (by rfl) 26 _ rfl g rfl 26 #[.bool false, .bool true, .bool true, .int .u64 1, .bool true, .bool false, .int .u64 2, .int .u32 3, .int .i64 4, .bool false, .int .u16 0] (0, 0) _ ?_ Try.underlying26 rfl ds_size ?_; exact HG10.out)
    | (refine wpList_load_row_w (by rfl) 26 _ rfl h rfl 26 #[.bool true, .bool false, .bool false, .int .u64 0, .bool true, .bool true, .int .u64 5, .int .u32 0, .int .i64 1, .bool true, .int .u16 6] (0, 0) _ ?_ Try.underlying26 rfl ds_size ?_; exact HH10.out))
  go_ret; exact ⟨rfl, HB10.out⟩
end Go.Proofs.Ytdhkjhkgjfcolaa
