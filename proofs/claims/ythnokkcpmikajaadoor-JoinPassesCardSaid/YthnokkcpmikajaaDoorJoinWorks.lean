/-
  What laid, refused and works of plaitlaw10 answer, each by its walk.
-/
import Derived.Test.YthnokkcpmikajaaDoorJoinEnc
import Derived.Test.YthnokkcpmikajaaDoorJoinDec
import Derived.BigFrame
namespace Go.Proofs.YthnokkcpmikajaaDoor
open Go.ChangeShapes Go.WideShapes Go.ChangeAt Go.RowKit
set_option linter.unusedVariables false

/-- A whole row is loaded, where the guard lets it be. -/
theorem wpList_load_row_w {P : Program} {ops : Array Oper} {rest : List Oper} {o : Oper} {a : Act} {w : World} {Q : Exit → Act → World → Prop} (hw : Region.wanted o (yielded ops a.tmps) = true) (ty : TypeId) (x : Operand) (ho : o.op = .load ty x)
    (g : Nat) (hx : a.eval x = .pointer (some ⟨g, 0, none⟩)) (t : TypeId) (cs : Array Value) (fr : Nat × Nat) (d : TypeDesc) (hg : w.heap[g]? = some (.cells cs t fr))
    (hu : P.underlying ty = some d) (hd : (match d with | .struct _ | .array _ _ => true | _ => false) = true) (hi : (P.info? ty).map (·.size) = some cs.size)
    (h : wpList P ops Q rest (a.put o.dst (.agg cs)) w) : wpList P ops Q (o :: rest) a w :=
  BigFrame.wpList_want hw fun _ hK => wp_load_row ty x ho g hx t cs fr d hg hu hd hi (hK _ _ h)
set_option maxHeartbeats 1000000 in
set_option maxRecDepth 100000 in
theorem laid_t (x : Jn) (hx : x.Ok) (hm : x.May) (want : ByteArray) (hw : txt x.body = want) (w : World) (ht : Tbl w) :
    Calls Tryd.prog 16 #[.agg (jnv x), .string want] w fun e w' => e = .returned (.bool true) ∧ Below w.heap.size w w' := by
  have HX := Lib.hid hx
  obtain ⟨c, hc⟩ : ∃ c, c = w.heap.size := ⟨_, rfl⟩
  obtain ⟨w0, hw0⟩ : ∃ w0, w0 = w.alloc (.cells (jnv x) 24) := ⟨_, rfl⟩
  have HC0 := Lib.hid (show Blk w0 c 24 (jnv x) by rw [hw0, hc]; exact Blk.new _ _ _)
  have HB0 := Lib.hid (show Below w.heap.size w w0 by rw [hw0]; exact (Below.refl _ w).alloc (Nat.le_refl _) _)
  have HT0 := Lib.hid (show Tbl w0 by rw [hw0]; exact ht.alloc _)
  have HE := Lib.hid (show encV x = .tuple #[.string want, .int .i64 0] by rw [encV_t x hm, hw])
  have HD := Lib.hid (show decV want = .tuple #[.agg (jnv x), .int .i64 0] from decV_eq _ _ _ (by rw [← hw]; exact dec_bodyJ x hx hm))
  have hsz : want.size ≤ 22 := by rw [← hw, txt_size, x.body_size hm]; rcases Jn.size_cases _ (x.forms hm) with ⟨_, h⟩ | ⟨_, h⟩ | ⟨_, h⟩ <;> omega
  have HZ := Lib.hid hsz
  have HC := Lib.hid hc
  have HW0 := Lib.hid hw0
  have HC00 := HC0
  rw [hw0, hc] at HC00
  clear hx hm hw hsz hc hw0 ht
  go_enter Tryd.func16, Tryd.ntmps16
  go_upto_region 1 with fail
  rw [← HW0.out, ← HC.out]
  clear HC00 HW0
  go_wp2_with (refine wpList_load_row_w (by rfl) 24 _ rfl c rfl 24 (jnv x) (0, 0) _ ?_ Tryd.underlying24 rfl jn_size ?_; exact HC0.out)
  refine (Encode_any x HX.out w0 HT0.out).mono ?_
  rintro e W1 ⟨rfl, b⟩
  rw [HE.out]
  have HB1 := Lib.hid (HB0.out.trans (b.mono HB0.out.size))
  have HC1 := Lib.hid (HC0.out.below b HC0.out.lt)
  have HT1 := Lib.hid (HT0.out.below b)
  clear b
  go_wp2_with fail
  refine (Decode_any want (by have := HZ.out; omega) W1 HT1.out).mono ?_
  rintro e W2 ⟨rfl, b⟩
  rw [HD.out]
  have HB2 := Lib.hid (HB1.out.trans (b.mono HB1.out.size))
  have HC2 := Lib.hid (HC1.out.below b HC1.out.lt)
  clear b
  obtain ⟨g, hg⟩ : ∃ g, g = W2.heap.size := ⟨_, rfl⟩
  obtain ⟨W3, hW3⟩ : ∃ W3, W3 = W2.alloc (.cells (jnv x) 24) := ⟨_, rfl⟩
  have HC3 := Lib.hid (show Blk W3 c 24 (jnv x) by rw [hW3]; exact HC2.out.alloc _)
  have HG3 := Lib.hid (show Blk W3 g 24 (jnv x) by rw [hW3, hg]; exact Blk.new _ _ _)
  have HB3 := Lib.hid (show Below w.heap.size w W3 by rw [hW3]; exact HB2.out.alloc HB2.out.size _)
  have HW3 := Lib.hid hW3
  have HG := Lib.hid hg
  clear hW3 hg
  go_upto_region 3 with fail
  rw [← HW3.out, ← HG.out]
  clear HW3
  go_wp2_with (first | (refine wpList_load_row_w (by rfl) 24 _ rfl c rfl 24 (jnv x) (0, 0) _ ?_ Tryd.underlying24 rfl jn_size ?_; exact HC3.out) | (refine wpList_load_row_w (by rfl) 24 _ rfl g rfl 24 (jnv x) (0, 0) _ ?_ Tryd.underlying24 rfl jn_size ?_; exact HG3.out))
  go_ret; exact ⟨rfl, HB3.out⟩
set_option maxHeartbeats 1000000 in
set_option maxRecDepth 100000 in
theorem refused_t (s : ByteArray) (hs : s.size ≤ 9223372036854775807) (c : Int) (hd : decJ s = (.zero, c)) (w : World) (ht : Tbl w) :
    Calls Tryd.prog 17 #[.string s, .int .i64 c] w fun e w' => e = .returned (.bool true) ∧ Below w.heap.size w w' := by
  have HE := Lib.hid (show decV s = .tuple #[.agg (jnv Jn.zero), .int .i64 c] from decV_eq _ _ _ hd)
  clear hd
  go_enter Tryd.func17, Tryd.ntmps17
  go_wp2_with fail
  refine (Decode_any s hs w ht).mono ?_
  rintro e W ⟨rfl, b⟩
  rw [HE.out]
  have HB := Lib.hid b
  have HZ := Lib.hid (Blk.new W 24 (jnv Jn.zero))
  clear b
  go_wp2_with (refine wpList_load_row_w (by rfl) 24 _ rfl W.heap.size rfl 24 #[.int .i64 0, .bool false, .int .i64 0, .int .u32 0, .int .u32 0, .string ⟨#[]⟩] (0, 0) _ ?_ Tryd.underlying24 rfl jn_size ?_; exact HZ.out)
  go_ret; exact ⟨rfl, HB.out.alloc HB.out.size _⟩

/-- The chapter's options. -/
def jn1 : Jn := ⟨0, true, 2, 258, 5, ⟨#[]⟩⟩
def jn2 : Jn := ⟨1, false, 3, 0, 1, ⟨#[97, 98, 99, 100, 101, 102, 103, 104]⟩⟩
def jn3 : Jn := ⟨2, false, 0, 0, 0, ⟨#[122, 122, 122, 122, 122, 122, 122, 122, 122, 122, 122, 122, 122, 122, 122, 122, 122, 122, 122, 122]⟩⟩
theorem jn1_ok : jn1.Ok := ⟨by decide, by decide, by decide, by decide, by decide⟩
theorem jn2_ok : jn2.Ok := ⟨by decide, by decide, by decide, by decide, by decide⟩
theorem jn3_ok : jn3.Ok := ⟨by decide, by decide, by decide, by decide, by decide⟩
theorem jn1_may : jn1.May := by decide
theorem jn2_may : jn2.May := by decide
theorem jn3_may : jn3.May := by decide
theorem laid1_t (w : World) (ht : Tbl w) : Calls Tryd.prog 16 #[.agg #[.int .i64 0, .bool true, .int .i64 2, .int .u32 258, .int .u32 5, .string ⟨#[]⟩], .string ⟨#[17, 2, 0, 0, 1, 2, 0, 0, 0, 5]⟩] w fun e w' => e = .returned (.bool true) ∧ Below w.heap.size w w' := laid_t jn1 jn1_ok jn1_may _ (by decide) w ht
theorem laid2_t (w : World) (ht : Tbl w) : Calls Tryd.prog 16 #[.agg #[.int .i64 1, .bool false, .int .i64 3, .int .u32 0, .int .u32 1, .string ⟨#[97, 98, 99, 100, 101, 102, 103, 104]⟩], .string ⟨#[16, 3, 97, 98, 99, 100, 101, 102, 103, 104, 0, 0, 0, 1]⟩] w fun e w' => e = .returned (.bool true) ∧ Below w.heap.size w w' := laid_t jn2 jn2_ok jn2_may _ (by decide) w ht
theorem laid3_t (w : World) (ht : Tbl w) : Calls Tryd.prog 16 #[.agg #[.int .i64 2, .bool false, .int .i64 0, .int .u32 0, .int .u32 0, .string ⟨#[122, 122, 122, 122, 122, 122, 122, 122, 122, 122, 122, 122, 122, 122, 122, 122, 122, 122, 122, 122]⟩], .string ⟨#[16, 0, 122, 122, 122, 122, 122, 122, 122, 122, 122, 122, 122, 122, 122, 122, 122, 122, 122, 122, 122, 122]⟩] w fun e w' => e = .returned (.bool true) ∧ Below w.heap.size w w' := laid_t jn3 jn3_ok jn3_may _ (by decide) w ht
theorem ref1_t (w : World) (ht : Tbl w) : Calls Tryd.prog 17 #[.string ⟨#[]⟩, .int .i64 4] w fun e w' => e = .returned (.bool true) ∧ Below w.heap.size w w' := refused_t _ (by decide) 4 (by kernel_rfl) w ht
theorem ref2_t (w : World) (ht : Tbl w) : Calls Tryd.prog 17 #[.string ⟨#[32]⟩, .int .i64 7] w fun e w' => e = .returned (.bool true) ∧ Below w.heap.size w w' := refused_t _ (by decide) 7 (by kernel_rfl) w ht
theorem ref3_t (w : World) (ht : Tbl w) : Calls Tryd.prog 17 #[.string ⟨#[16, 2]⟩, .int .i64 5] w fun e w' => e = .returned (.bool true) ∧ Below w.heap.size w w' := refused_t _ (by decide) 5 (by kernel_rfl) w ht

set_option maxHeartbeats 4000000 in
set_option maxRecDepth 100000 in
theorem works_t (w : World) (ht : Tbl w) : Calls Tryd.prog 12 #[] w fun e w' => e = .returned (.bool true) ∧ Below w.heap.size w w' := by
  have HT0 := Lib.hid ht
  clear ht
  go_enter Tryd.func12, Tryd.ntmps12
  go_wp2_with fail
  refine (laid1_t w HT0.out).mono ?_
  rintro e W1 ⟨rfl, b⟩
  have HB1 := Lib.hid b
  have HT1 := Lib.hid (HT0.out.below b)
  clear b
  go_wp2_with fail
  refine (laid2_t W1 HT1.out).mono ?_
  rintro e W2 ⟨rfl, b⟩
  have HB2 := Lib.hid (HB1.out.trans (b.mono HB1.out.size))
  have HT2 := Lib.hid (HT1.out.below b)
  clear b
  go_wp2_with fail
  refine (laid3_t W2 HT2.out).mono ?_
  rintro e W3 ⟨rfl, b⟩
  have HB3 := Lib.hid (HB2.out.trans (b.mono HB2.out.size))
  have HT3 := Lib.hid (HT2.out.below b)
  clear b
  go_wp2_with fail
  have HD := Lib.hid (show decV ⟨#[31, 2, 0, 0, 0, 0, 0, 0, 0, 0]⟩ = .tuple #[.agg #[.int .i64 0, .bool true, .int .i64 2, .int .u32 0, .int .u32 0, .string ⟨#[]⟩], .int .i64 0] by kernel_rfl)
  refine (Decode_any ⟨#[31, 2, 0, 0, 0, 0, 0, 0, 0, 0]⟩ (by decide) W3 HT3.out).mono ?_
  rintro e W4 ⟨rfl, b⟩
  rw [HD.out]
  have HB4 := Lib.hid (HB3.out.trans (b.mono HB3.out.size))
  have HT4 := Lib.hid (HT3.out.below b)
  clear b
  obtain ⟨g, hg⟩ : ∃ g, g = W4.heap.size := ⟨_, rfl⟩
  obtain ⟨W5, hW5⟩ : ∃ W5, W5 = W4.alloc (.cells #[.int .i64 0, .bool true, .int .i64 2, .int .u32 0, .int .u32 0, .string ⟨#[]⟩] 24) := ⟨_, rfl⟩
  have HG5 := Lib.hid (show Blk W5 g 24 #[.int .i64 0, .bool true, .int .i64 2, .int .u32 0, .int .u32 0, .string ⟨#[]⟩] by rw [hW5, hg]; exact Blk.new _ _ _)
  have HB5 := Lib.hid (show Below w.heap.size w W5 by rw [hW5]; exact HB4.out.alloc HB4.out.size _)
  have HT5 := Lib.hid (show Tbl W5 by rw [hW5]; exact HT4.out.alloc _)
  have HW5 := Lib.hid hW5
  have HG := Lib.hid hg
  clear hW5 hg
  go_upto_region 5 with fail
  rw [← HW5.out, ← HG.out]
  clear HW5
  go_wp2_with fail
  refine (ref1_t W5 HT5.out).mono ?_
  rintro e W6 ⟨rfl, b⟩
  have HB6 := Lib.hid (HB5.out.trans (b.mono HB5.out.size))
  have HT6 := Lib.hid (HT5.out.below b)
  have HG6 := Lib.hid (HG5.out.below b HG5.out.lt)
  clear b
  go_wp2_with fail
  refine (ref2_t W6 HT6.out).mono ?_
  rintro e W7 ⟨rfl, b⟩
  have HB7 := Lib.hid (HB6.out.trans (b.mono HB6.out.size))
  have HT7 := Lib.hid (HT6.out.below b)
  have HG7 := Lib.hid (HG6.out.below b HG6.out.lt)
  clear b
  go_wp2_with fail
  refine (ref3_t W7 HT7.out).mono ?_
  rintro e W8 ⟨rfl, b⟩
  have HB8 := Lib.hid (HB7.out.trans (b.mono HB7.out.size))
  have HG8 := Lib.hid (HG7.out.below b HG7.out.lt)
  clear b
  go_wp2_with (refine wpList_load_row_w (by rfl) 24 _ rfl g rfl 24 #[.int .i64 0, .bool true, .int .i64 2, .int .u32 0, .int .u32 0, .string ⟨#[]⟩] (0, 0) _ ?_ Tryd.underlying24 rfl jn_size ?_; exact HG8.out)
  go_ret; exact ⟨rfl, HB8.out⟩
end Go.Proofs.YthnokkcpmikajaaDoor
