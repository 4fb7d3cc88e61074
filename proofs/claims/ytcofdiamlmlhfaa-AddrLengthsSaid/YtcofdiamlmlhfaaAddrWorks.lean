/-
  What laid, taken, refused and works of plaitlaw12 answer, each by its walk.
-/
import Derived.Test.YtcofdiamlmlhfaaAddrEnc
import Derived.Test.YtcofdiamlmlhfaaAddrDec
import Derived.BigFrame
namespace Go.Proofs.Ytcofdiamlmlhfaa
open Go.ChangeShapes Go.WideShapes Go.ChangeAt Go.RowKit
set_option linter.unusedVariables false

/-- A whole row is loaded, where the guard lets it be. -/
theorem wpList_load_row_w {P : Program} {ops : Array Oper} {rest : List Oper} {o : Oper} {a : Act} {w : World} {Q : Exit → Act → World → Prop} (hw : Region.wanted o (yielded ops a.tmps) = true) (ty : TypeId) (x : Operand) (ho : o.op = .load ty x)
    (g : Nat) (hx : a.eval x = .pointer (some ⟨g, 0, none⟩)) (t : TypeId) (cs : Array Value) (fr : Nat × Nat) (d : TypeDesc) (hg : w.heap[g]? = some (.cells cs t fr))
    (hu : P.underlying ty = some d) (hd : (match d with | .struct _ | .array _ _ => true | _ => false) = true) (hi : (P.info? ty).map (·.size) = some cs.size)
    (h : wpList P ops Q rest (a.put o.dst (.agg cs)) w) : wpList P ops Q (o :: rest) a w :=
  BigFrame.wpList_want hw fun _ hK => wp_load_row ty x ho g hx t cs fr d hg hu hd hi (hK _ _ h)
set_option maxHeartbeats 1000000 in
set_option maxRecDepth 100000 in
theorem laid_t (x : Ad) (hm : x.May) (want : ByteArray) (hw : txt x.body = want) (w : World) :
    Calls Try.prog 19 #[.agg (adv x), .string want] w fun e w' => e = .returned (.bool true) ∧ Below w.heap.size w w' := by
  obtain ⟨c, hc⟩ : ∃ c, c = w.heap.size := ⟨_, rfl⟩
  obtain ⟨w0, hw0⟩ : ∃ w0, w0 = w.alloc (.cells (adv x) 23) := ⟨_, rfl⟩
  have HC0 := Lib.hid (show Blk w0 c 23 (adv x) by rw [hw0, hc]; exact Blk.new _ _ _)
  have HB0 := Lib.hid (show Below w.heap.size w w0 by rw [hw0]; exact (Below.refl _ w).alloc (Nat.le_refl _) _)
  have HE := Lib.hid (show encV x = .tuple #[.string want, .int .i64 0] by rw [encV_t x hm, hw])
  have HD := Lib.hid (show decV want = .tuple #[.agg (adv x), .int .i64 0] from decV_eq _ _ _ (by rw [← hw]; exact dec_body x hm))
  have hsz : want.size ≤ 28 := by rw [← hw]; exact body_le x hm
  have HZ := Lib.hid hsz
  have HC := Lib.hid hc
  have HW0 := Lib.hid hw0
  clear hm hw hsz hc hw0
  go_enter Try.func19, Try.ntmps19
  go_upto_region 1 with fail
  rw [← HW0.out, ← HC.out]
  clear HW0
  go_wp2_with (refine wpList_load_row_w (by rfl) 23 _ rfl c rfl 23 (adv x) (0, 0) _ ?_ Try.underlying23 rfl ad_size ?_; exact HC0.out)
  refine (EncodeAdd_any x w0).mono ?_
  rintro e W1 ⟨rfl, b⟩
  rw [HE.out]
  have HB1 := Lib.hid (HB0.out.trans (b.mono HB0.out.size))
  have HC1 := Lib.hid (HC0.out.below b HC0.out.lt)
  clear b
  go_wp2_with fail
  refine (DecodeAdd_any want (by have := HZ.out; omega) W1).mono ?_
  rintro e W2 ⟨rfl, b⟩
  rw [HD.out]
  have HB2 := Lib.hid (HB1.out.trans (b.mono HB1.out.size))
  have HC2 := Lib.hid (HC1.out.below b HC1.out.lt)
  clear b
  obtain ⟨g, hg⟩ : ∃ g, g = W2.heap.size := ⟨_, rfl⟩
  obtain ⟨W3, hW3⟩ : ∃ W3, W3 = W2.alloc (.cells (adv x) 23) := ⟨_, rfl⟩
  have HC3 := Lib.hid (show Blk W3 c 23 (adv x) by rw [hW3]; exact HC2.out.alloc _)
  have HG3 := Lib.hid (show Blk W3 g 23 (adv x) by rw [hW3, hg]; exact Blk.new _ _ _)
  have HB3 := Lib.hid (show Below w.heap.size w W3 by rw [hW3]; exact HB2.out.alloc HB2.out.size _)
  have HW3 := Lib.hid hW3
  have HG := Lib.hid hg
  clear hW3 hg
  go_upto_region 3 with fail
  rw [← HW3.out, ← HG.out]
  clear HW3
  go_wp2_with (first | (refine wpList_load_row_w (by rfl) 23 _ rfl c rfl 23 (adv x) (0, 0) _ ?_ Try.underlying23 rfl ad_size ?_; exact HC3.out) | (refine wpList_load_row_w (by rfl) 23 _ rfl g rfl 23 (adv x) (0, 0) _ ?_ Try.underlying23 rfl ad_size ?_; exact HG3.out))
  go_ret; exact ⟨rfl, HB3.out⟩
set_option maxHeartbeats 1000000 in
set_option maxRecDepth 100000 in
theorem taken_t (ids : ByteArray) (hm : 1 ≤ ids.size ∧ ids.size ≤ 37) (want : ByteArray) (hw : txt (64 :: ids.data.toList) = want) (w : World) :
    Calls Try.prog 20 #[.string ids, .string want] w fun e w' => e = .returned (.bool true) ∧ Below w.heap.size w w' := by
  have HE := Lib.hid (show encRV ids = .tuple #[.string want, .int .i64 0] by rw [encRV_t ids hm, hw])
  have HD := Lib.hid (show decRV want = .tuple #[.agg (rmv ids), .int .i64 0] from decRV_eq _ _ _ (by rw [← hw]; exact decR_first ids 64 rfl hm))
  have HZ := Lib.hid (show want.size ≤ 38 by rw [← hw, one_size, len_data]; omega)
  have HS := Lib.hid (show ids.size ≤ 37 from hm.2)
  clear hm hw
  go_enter Try.func20, Try.ntmps20
  go_wp2_with fail
  refine (EncodeRemove_any ids (by have := HS.out; omega) w).mono ?_
  rintro e W1 ⟨rfl, b⟩
  rw [HE.out]
  have HB1 := Lib.hid b
  clear b
  go_wp2_with fail
  refine (DecodeRemove_any want (by have := HZ.out; omega) W1).mono ?_
  rintro e W2 ⟨rfl, b⟩
  rw [HD.out]
  have HB2 := Lib.hid (HB1.out.trans (b.mono HB1.out.size))
  clear b
  go_wp2_with fail
  go_ret; exact ⟨rfl, HB2.out.alloc HB2.out.size _⟩
set_option maxHeartbeats 1000000 in
set_option maxRecDepth 100000 in
theorem refused_t (s : ByteArray) (hs : s.size ≤ 9223372036854775807) (c k : Int) (hd : decA s = (.zero, c)) (hr : decR s = (⟨#[]⟩, k)) (w : World) :
    Calls Try.prog 21 #[.string s, .int .i64 c, .int .i64 k] w fun e w' => e = .returned (.bool true) ∧ Below w.heap.size w w' := by
  have HE := Lib.hid (show decV s = .tuple #[.agg (adv Ad.zero), .int .i64 c] from decV_eq _ _ _ hd)
  have HF := Lib.hid (show decRV s = .tuple #[.agg (rmv ⟨#[]⟩), .int .i64 k] from decRV_eq _ _ _ hr)
  clear hd hr
  go_enter Try.func21, Try.ntmps21
  go_wp2_with fail
  refine (DecodeAdd_any s hs w).mono ?_
  rintro e W ⟨rfl, b⟩
  rw [HE.out]
  have HB := Lib.hid b
  obtain ⟨g, hg⟩ : ∃ g, g = W.heap.size := ⟨_, rfl⟩
  obtain ⟨W1, hW1⟩ : ∃ W', W' = W.alloc (.cells #[.bool false, .int .i64 0, .string ⟨#[]⟩, .bool false, .int .i64 0, .string ⟨#[]⟩] 23) := ⟨_, rfl⟩
  have HZ1 := Lib.hid (show Blk W1 g 23 #[.bool false, .int .i64 0, .string ⟨#[]⟩, .bool false, .int .i64 0, .string ⟨#[]⟩] by rw [hW1, hg]; exact Blk.new _ _ _)
  have HB1 := Lib.hid (show Below w.heap.size w W1 by rw [hW1]; exact HB.out.alloc HB.out.size _)
  have HW1 := Lib.hid hW1
  have HG := Lib.hid hg
  clear b hW1 hg
  go_upto_region 2 with fail
  rw [← HG.out]
  go_wp2_with fail
  refine (DecodeRemove_any s hs _).mono ?_
  rintro e W2 ⟨rfl, b⟩
  rw [HF.out]
  have b' : Below W1.heap.size W1 W2 := by rw [HW1.out]; exact b
  have HZ2 := Lib.hid (HZ1.out.below b' HZ1.out.lt)
  have HB2 := Lib.hid (HB1.out.trans (b'.mono HB1.out.size))
  obtain ⟨k2, hk2⟩ : ∃ g, g = W2.heap.size := ⟨_, rfl⟩
  obtain ⟨W3, hW3⟩ : ∃ W', W' = W2.alloc (.cells #[.string ⟨#[]⟩] 29) := ⟨_, rfl⟩
  have HZ3 := Lib.hid (show Blk W3 g 23 #[.bool false, .int .i64 0, .string ⟨#[]⟩, .bool false, .int .i64 0, .string ⟨#[]⟩] by rw [hW3]; exact HZ2.out.alloc _)
  have HK3 := Lib.hid (show Blk W3 k2 29 #[.string ⟨#[]⟩] by rw [hW3, hk2]; exact Blk.new _ _ _)
  have HB3 := Lib.hid (show Below w.heap.size w W3 by rw [hW3]; exact HB2.out.alloc HB2.out.size _)
  have HW3 := Lib.hid hW3
  have HK := Lib.hid hk2
  clear b b' hW3 hk2 HW1
  go_upto_region 3 with fail
  rw [← HW3.out, ← HK.out]
  go_wp2_with (first | (refine wpList_load_row_w (by rfl) 23 _ rfl g rfl 23 #[.bool false, .int .i64 0, .string ⟨#[]⟩, .bool false, .int .i64 0, .string ⟨#[]⟩] (0, 0) _ ?_ Try.underlying23 rfl ad_size ?_; exact HZ3.out) | (refine wpList_load_row_w (by rfl) 29 _ rfl k2 rfl 29 #[.string ⟨#[]⟩] (0, 0) _ ?_ Try.underlying29 rfl rm_size ?_; exact HK3.out))
  go_ret; exact ⟨rfl, HB3.out⟩

/-- The chapter's options. -/
def ad1 : Ad := ⟨true, 5, ⟨#[10, 0, 0, 1]⟩, false, 0, ⟨#[]⟩⟩
def ad2 : Ad := ⟨false, 1, ⟨#[10, 0, 0, 1]⟩, true, 443, ⟨#[49, 50, 51, 52, 53, 54, 55, 56]⟩⟩
theorem ad1_may : ad1.May := by decide
theorem ad2_may : ad2.May := by decide
abbrev Yes (f : FuncId) (args : Array Value) (w : World) : Prop := Calls Try.prog f args w fun e w' => e = .returned (.bool true) ∧ Below w.heap.size w w'
theorem laid1_t (w : World) : Yes 19 #[.agg #[.bool true, .int .i64 5, .string ⟨#[10, 0, 0, 1]⟩, .bool false, .int .i64 0, .string ⟨#[]⟩], .string ⟨#[49, 5, 10, 0, 0, 1]⟩] w := laid_t ad1 ad1_may _ (by decide) w
theorem laid2_t (w : World) : Yes 19 #[.agg #[.bool false, .int .i64 1, .string ⟨#[10, 0, 0, 1]⟩, .bool true, .int .i64 443, .string ⟨#[49, 50, 51, 52, 53, 54, 55, 56]⟩], .string ⟨#[48, 1, 10, 0, 0, 1, 1, 187, 49, 50, 51, 52, 53, 54, 55, 56]⟩] w := laid_t ad2 ad2_may _ (by decide) w
theorem taken1_t (w : World) : Yes 20 #[.string ⟨#[1, 9]⟩, .string ⟨#[64, 1, 9]⟩] w := taken_t _ (by decide) _ (by decide) w
theorem ref1_t (w : World) : Yes 21 #[.string ⟨#[]⟩, .int .i64 4, .int .i64 4] w := refused_t _ (by decide) 4 4 (by kernel_rfl) (by kernel_rfl) w
theorem ref2_t (w : World) : Yes 21 #[.string ⟨#[64]⟩, .int .i64 7, .int .i64 5] w := refused_t _ (by decide) 7 5 (by kernel_rfl) (by kernel_rfl) w
theorem ref3_t (w : World) : Yes 21 #[.string ⟨#[49, 5]⟩, .int .i64 5, .int .i64 7] w := refused_t _ (by decide) 5 7 (by kernel_rfl) (by kernel_rfl) w
theorem ref4_t (w : World) : Yes 21 #[.string ⟨#[48, 5, 10, 0, 0, 1]⟩, .int .i64 5, .int .i64 7] w := refused_t _ (by decide) 5 7 (by kernel_rfl) (by kernel_rfl) w
set_option maxHeartbeats 4000000 in
set_option maxRecDepth 100000 in
theorem works_t (w : World) : Calls Try.prog 13 #[] w fun e w' => e = .returned (.bool true) ∧ Below w.heap.size w w' := by
  go_enter Try.func13, Try.ntmps13
  go_wp2_with fail
  refine (laid1_t w).mono ?_
  rintro e W1 ⟨rfl, b⟩
  have HB1 := Lib.hid b
  clear b
  go_wp2_with fail
  refine (laid2_t W1).mono ?_
  rintro e W2 ⟨rfl, b⟩
  have HB2 := Lib.hid (HB1.out.trans (b.mono HB1.out.size))
  clear b HB1
  go_wp2_with fail
  have HD := Lib.hid (show decRV ⟨#[79, 7]⟩ = .tuple #[.agg #[.string ⟨#[7]⟩], .int .i64 0] by kernel_rfl)
  refine (DecodeRemove_any ⟨#[79, 7]⟩ (by decide) W2).mono ?_
  rintro e W4 ⟨rfl, b⟩
  rw [HD.out]
  have HB4 := Lib.hid (HB2.out.trans (b.mono HB2.out.size))
  clear b HB2
  obtain ⟨g, hg⟩ : ∃ g, g = W4.heap.size := ⟨_, rfl⟩
  obtain ⟨W5, hW5⟩ : ∃ W5, W5 = W4.alloc (.cells #[.string ⟨#[7]⟩] 29) := ⟨_, rfl⟩
  have HG5 := Lib.hid (show Blk W5 g 29 #[.string ⟨#[7]⟩] by rw [hW5, hg]; exact Blk.new _ _ _)
  have HB5 := Lib.hid (show Below w.heap.size w W5 by rw [hW5]; exact HB4.out.alloc HB4.out.size _)
  have HW5 := Lib.hid hW5
  have HG := Lib.hid hg
  clear hW5 hg
  go_upto_region 4 with fail
  rw [← HW5.out, ← HG.out]
  clear HW5
  go_wp2_with fail
  refine (taken1_t W5).mono ?_
  rintro e W6 ⟨rfl, b⟩
  have HB6 := Lib.hid (HB5.out.trans (b.mono HB5.out.size))
  have HG6 := Lib.hid (HG5.out.below b HG5.out.lt)
  clear b
  go_wp2_with fail
  refine (ref1_t W6).mono ?_
  rintro e W7 ⟨rfl, b⟩
  have HB7 := Lib.hid (HB6.out.trans (b.mono HB6.out.size))
  have HG7 := Lib.hid (HG6.out.below b HG6.out.lt)
  clear b
  go_wp2_with fail
  refine (ref2_t W7).mono ?_
  rintro e W8 ⟨rfl, b⟩
  have HB8 := Lib.hid (HB7.out.trans (b.mono HB7.out.size))
  have HG8 := Lib.hid (HG7.out.below b HG7.out.lt)
  clear b
  go_wp2_with fail
  refine (ref3_t W8).mono ?_
  rintro e W9 ⟨rfl, b⟩
  have HB9 := Lib.hid (HB8.out.trans (b.mono HB8.out.size))
  have HG9 := Lib.hid (HG8.out.below b HG8.out.lt)
  clear b
  go_wp2_with fail
  refine (ref4_t W9).mono ?_
  rintro e W10 ⟨rfl, b⟩
  have HB10 := Lib.hid (HB9.out.trans (b.mono HB9.out.size))
  have HG10 := Lib.hid (HG9.out.below b HG9.out.lt)
  clear b
  have c0 := HG10.out.cell 0
  simp only [List.getElem?_toArray, List.getElem?_cons_zero] at c0
  go_wp2_with fail
  go_ret; exact ⟨rfl, HB10.out⟩
end Go.Proofs.Ytcofdiamlmlhfaa
