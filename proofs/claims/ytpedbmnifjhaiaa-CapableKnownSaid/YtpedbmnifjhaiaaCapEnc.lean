/-
  What valid and Encode of package capable answer, each by its walk.
-/
import Derived.Test.YtpedbmnifjhaiaaCapWalks
namespace Go.Proofs.Ytpedbmnifjhaiaa
open Go.ChangeShapes Go.WideShapes Go.ChangeAt Go.RowKit
set_option linter.unusedVariables false

/-- An int as it is, made unsigned. -/
def uns (z : Int) : Nat := (z % 18446744073709551616).toNat
theorem uns_le (z : Int) : uns z ≤ 18446744073709551615 := by unfold uns; omega
theorem uns_of (z : Int) : z % 18446744073709551616 = (uns z : Int) := by unfold uns; omega
theorem uns_at (z : Int) (h : 0 ≤ z) (h' : z ≤ 9223372036854775807) : uns z = z.toNat := by unfold uns; omega

theorem small (n k : Nat) : n / 2 ^ k = 0 ↔ n < 2 ^ k := by
  rw [Nat.div_eq_zero_iff]
  have := Nat.two_pow_pos k
  omega
theorem may_fits (x : Cap) (hx : x.Ok) : x.May ↔ (((((((0 ≤ x.form) ∧ (x.form < 5)) ∧ uns x.ver / 2 ^ 4 = 0) ∧ x.own / 2 ^ (8 * wOwn x.form) = 0) ∧ x.peer / 2 ^ (8 * wPeer x.form) = 0) ∧ uns x.len / 2 ^ (8 * wLen x.form) = 0) ∧ x.sum / 2 ^ (8 * wSum x.form) = 0) := by
  simp only [small]
  by_cases hf : 0 ≤ x.form ∧ x.form < 5
  · obtain ⟨form, ver, sums, alone, own, peer, len, sum⟩ := x
    obtain ⟨_, h1, h2, h3, h4, h5⟩ := hx
    simp only [Cap.May] at *
    obtain ⟨f0, f5⟩ := hf
    have : form = 0 ∨ form = 1 ∨ form = 2 ∨ form = 3 ∨ form = 4 := by omega
    rcases this with rfl | rfl | rfl | rfl | rfl <;> simp only [wOwn, wPeer, wLen, wSum, uns] <;> simp <;> omega
  · constructor
    · intro h; exact absurd h.1 hf
    · intro h; exact absurd h.1.1.1.1.1 hf
theorem kOwn (f : Int) : wrap64 (8 * (wOwn f : Int)) = ((8 * wOwn f : Nat) : Int) := by unfold wOwn; split <;> kernel_rfl
theorem kPeer (f : Int) : wrap64 (8 * (wPeer f : Int)) = ((8 * wPeer f : Nat) : Int) := by unfold wPeer; split <;> kernel_rfl
theorem kLen (f : Int) : wrap64 (8 * (wLen f : Int)) = ((8 * wLen f : Nat) : Int) := by unfold wLen; split <;> kernel_rfl
theorem kSum (f : Int) : wrap64 (8 * (wSum f : Int)) = ((8 * wSum f : Nat) : Int) := by unfold wSum; split <;> kernel_rfl
theorem wOwn_le (f : Int) : 8 * wOwn f ≤ 64 := by unfold wOwn; split <;> omega
theorem wPeer_le (f : Int) : 8 * wPeer f ≤ 64 := by unfold wPeer; split <;> omega
theorem wLen_le (f : Int) : 8 * wLen f ≤ 64 := by unfold wLen; split <;> omega
theorem wSum_le (f : Int) : 8 * wSum f ≤ 64 := by unfold wSum; split <;> omega

set_option maxHeartbeats 2000000 in
set_option maxRecDepth 100000 in
theorem valid_any (x : Cap) (hx : x.Ok) (w : World) :
    Calls Try.prog 17 #[.agg (capv x)] w fun e w' => e = .returned (.bool (decide x.May)) ∧ Below w.heap.size w w' := by
  obtain ⟨M, hM⟩ : ∃ M, M = decide x.May := ⟨_, rfl⟩
  rw [← hM]
  obtain ⟨b1, hb1⟩ : ∃ b, b = decide (uns x.ver / 2 ^ 4 = 0) := ⟨_, rfl⟩
  obtain ⟨b2, hb2⟩ : ∃ b, b = decide (x.own / 2 ^ (8 * wOwn x.form) = 0) := ⟨_, rfl⟩
  obtain ⟨b3, hb3⟩ : ∃ b, b = decide (x.peer / 2 ^ (8 * wPeer x.form) = 0) := ⟨_, rfl⟩
  obtain ⟨b4, hb4⟩ : ∃ b, b = decide (uns x.len / 2 ^ (8 * wLen x.form) = 0) := ⟨_, rfl⟩
  obtain ⟨b5, hb5⟩ : ∃ b, b = decide (x.sum / 2 ^ (8 * wSum x.form) = 0) := ⟨_, rfl⟩
  have hm : M = (decide (0 ≤ x.form) && decide (x.form < 5) && b1 && b2 && b3 && b4 && b5) := by
    subst hb1 hb2 hb3 hb4 hb5
    rw [hM, Bool.eq_iff_iff]
    simp only [Bool.and_eq_true, decide_eq_true_eq]
    exact may_fits x hx
  have HX := Lib.hid hx
  have HM := Lib.hid hm
  have H1 := Lib.hid hb1.symm
  have H2 := Lib.hid hb2.symm
  have H3 := Lib.hid hb3.symm
  have H4 := Lib.hid hb4.symm
  have H5 := Lib.hid hb5.symm
  clear hx hM hm hb1 hb2 hb3 hb4 hb5
  go_enter Try.func17, Try.ntmps17
  go_wp2_with fail
  refine (widthsOf_any x.form _).mono ?_
  rintro e W ⟨rfl, b⟩
  have HB := Lib.hid (((Below.refl _ w).alloc (Nat.le_refl _) (.cells (capv x) 25)).trans (b.mono (by simp)))
  have hc := (Blk.new w 25 (capv x)).below b (by simp)
  clear b
  obtain ⟨W2, hW2⟩ : ∃ W2, W2 = W.alloc (.cells #[.int .i64 (wOwn x.form : Int), .int .i64 (wPeer x.form : Int), .int .i64 (wLen x.form : Int), .int .i64 (wSum x.form : Int)] 47) := ⟨_, rfl⟩
  have HC := Lib.hid (show Blk W2 w.heap.size 25 (capv x) by rw [hW2]; exact hc.alloc _)
  have HV := Lib.hid (show Blk W2 W.heap.size 47 (widv x.form) by rw [hW2]; exact Blk.new _ _ _)
  have HB2 := Lib.hid (show Below w.heap.size w W2 by rw [hW2]; exact HB.out.alloc HB.out.size _)
  have HW2 := Lib.hid hW2
  clear hW2 hc
  have c0 := HC.out.cell 0
  have c1 := HC.out.cell 1
  have c4 := HC.out.cell 4
  have c5 := HC.out.cell 5
  have c6 := HC.out.cell 6
  have c7 := HC.out.cell 7
  have v0 := HV.out.cell 0
  have v1 := HV.out.cell 1
  have v2 := HV.out.cell 2
  have v3 := HV.out.cell 3
  simp only [List.getElem?_toArray, List.getElem?_cons_zero, List.getElem?_cons_succ] at c0 c1 c4 c5 c6 c7 v0 v1 v2 v3
  have a0 := c0
  have a1 := c1
  rw [HW2.out] at a0 a1
  by_cases h0 : 0 ≤ x.form
  · by_cases h5 : x.form < 5
    · go_wp2_with fail
      rw [← HW2.out]
      clear a0 a1
      refine (fits_at (uns x.ver) 4 b1 (uns_le _) (by decide) H1.out _ _ (uns_of _) rfl W2).mono ?_
      rintro e w' ⟨rfl, rfl⟩
      cases b1
      · go_wp2_with fail
        go_ret; exact ⟨ret_bool (by rw [HM.out]; simp), HB2.out⟩
      go_wp2_with fail
      refine (fits_at x.own (8 * wOwn x.form) b2 HX.out.own (wOwn_le _) H2.out _ _ rfl (kOwn _) W2).mono ?_
      rintro e w' ⟨rfl, rfl⟩
      cases b2
      · go_wp2_with fail
        go_ret; exact ⟨ret_bool (by rw [HM.out]; simp), HB2.out⟩
      go_wp2_with fail
      refine (fits_at x.peer (8 * wPeer x.form) b3 HX.out.peer (wPeer_le _) H3.out _ _ rfl (kPeer _) W2).mono ?_
      rintro e w' ⟨rfl, rfl⟩
      cases b3
      · go_wp2_with fail
        go_ret; exact ⟨ret_bool (by rw [HM.out]; simp), HB2.out⟩
      go_wp2_with fail
      refine (fits_at (uns x.len) (8 * wLen x.form) b4 (uns_le _) (wLen_le _) H4.out _ _ (uns_of _) (kLen _) W2).mono ?_
      rintro e w' ⟨rfl, rfl⟩
      cases b4
      · go_wp2_with fail
        go_ret; exact ⟨ret_bool (by rw [HM.out]; simp), HB2.out⟩
      go_wp2_with fail
      refine (fits_at x.sum (8 * wSum x.form) b5 (by have := HX.out.sum; omega) (wSum_le _) H5.out _ _ (by have := HX.out.sum; rw [IntKind.wrap_u64]; omega) (kSum _) W2).mono ?_
      rintro e w' ⟨rfl, rfl⟩
      cases b5
      · go_wp2_with fail
        go_ret; exact ⟨ret_bool (by rw [HM.out]; simp), HB2.out⟩
      · go_wp2_with fail
        go_ret; exact ⟨ret_bool (by rw [HM.out]; simp [h0, h5]), HB2.out⟩
    · go_wp2_with fail
      rw [← HW2.out]
      go_ret; exact ⟨ret_bool (by rw [HM.out, decide_eq_false (by omega : ¬ x.form < 5)]; simp), HB2.out⟩
  · go_wp2_with fail
    rw [← HW2.out]
    go_ret; exact ⟨ret_bool (by rw [HM.out, decide_eq_false (by omega : ¬ 0 ≤ x.form)]; simp), HB2.out⟩
theorem put_at (s : ByteArray) (m n : Nat) (N M : Int) (w : World) (hs : s.size ≤ 9223372036854775000) (hm : m = 0 ∨ m = 1 ∨ m = 2 ∨ m = 8) (hn : n < 256 ^ m) (t : ByteArray) (ht : s ++ txt (be m n) = t) (hN : N = (n : Int)) (hM : M = (m : Int)) :
    Calls Try.prog 19 #[.string s, .int .i64 M, .int .u64 N] w fun e w' => e = .returned (.string t) ∧ Below w.heap.size w w' := by
  subst hN hM; exact put_any s m n w hs hm hn t ht
/-- What 'Encode' answers. -/
def encV (x : Cap) : Value := .tuple #[.string x.enc.1, .int .i64 x.enc.2]
theorem encV_t (x : Cap) (h : x.May) : encV x = .tuple #[.string (txt x.body), .int .i64 0] := by unfold encV Cap.enc; rw [if_pos h]
theorem encV_f (x : Cap) (h : ¬ x.May) : encV x = .tuple #[.string ⟨#[]⟩, .int .i64 2] := by unfold encV Cap.enc; rw [if_neg h]; rfl
theorem laid_body (x : Cap) (h : x.May) : txt (be 1 x.ver.toNat) ++ txt (be 1 x.flags) ++ txt (be (wOwn x.form) x.own) ++ txt (be (wPeer x.form) x.peer) ++ txt (be (wLen x.form) x.len.toNat) ++ txt (be (wSum x.form) x.sum) = txt x.body := by
  obtain ⟨⟨f0, f5⟩, _⟩ := h
  have : x.form = 0 ∨ x.form = 1 ∨ x.form = 2 ∨ x.form = 3 ∨ x.form = 4 := by omega
  simp only [txt_app]
  rcases this with h | h | h | h | h
  · rw [x.body0 h, h]; simp [wOwn, wPeer, wLen, wSum, be, Cap.front]
  · rw [x.body1 h, h]; simp [wOwn, wPeer, wLen, wSum, be, Cap.front]
  · rw [x.body2 h, h]; simp [wOwn, wPeer, wLen, wSum, be, Cap.front]
  · rw [x.body3 h, h]; simp [wOwn, wPeer, wLen, wSum, be, Cap.front]
  · rw [x.body4 h, h]; simp [wOwn, wPeer, wLen, wSum, Cap.front]
theorem w_own (x : Cap) (hx : x.Ok) (h : x.May) : x.own < 256 ^ wOwn x.form := by
  have := hx.own; obtain ⟨⟨f0, f5⟩, _, _, ho, _⟩ := h
  unfold wOwn; split
  · omega
  · rw [ho (by omega)]; decide
theorem w_peer (x : Cap) (hx : x.Ok) (h : x.May) : x.peer < 256 ^ wPeer x.form := by
  have := hx.peer; obtain ⟨⟨f0, f5⟩, _, _, _, ho, _⟩ := h
  unfold wPeer; split
  · omega
  · rw [ho (by omega)]; decide
theorem w_len (x : Cap) (h : x.May) : x.len.toNat < 256 ^ wLen x.form := by
  obtain ⟨⟨f0, f5⟩, _, ⟨l0, l1⟩, _, _, ho, _⟩ := h
  unfold wLen; split
  · omega
  · rw [ho (by omega)]; decide
theorem w_sum (x : Cap) (hx : x.Ok) (h : x.May) : x.sum < 256 ^ wSum x.form := by
  have := hx.sum; obtain ⟨⟨f0, f5⟩, _, _, _, _, _, ho⟩ := h
  unfold wSum; split
  · omega
  · rw [ho (by omega)]; decide
set_option maxHeartbeats 2000000 in
set_option maxRecDepth 100000 in
theorem Encode_any (x : Cap) (hx : x.Ok) (w : World) :
    Calls Try.prog 9 #[.agg (capv x)] w fun e w' => e = .returned (encV x) ∧ Below w.heap.size w w' := by
  have HX := Lib.hid hx
  clear hx
  obtain ⟨V, hV⟩ : ∃ V, V = encV x := ⟨_, rfl⟩
  rw [← hV]
  have HC := Lib.hid (Blk.new w 25 (capv x))
  have HB := Lib.hid ((Below.refl _ w).alloc (Nat.le_refl _) (.cells (capv x) 25))
  have hlt : w.heap.size < (w.alloc (.cells (capv x) 25)).heap.size := by simp
  have HL := Lib.hid hlt
  clear hlt
  by_cases hm : x.May
  · rw [encV_t x hm, ← laid_body x hm] at hV
    have HVV := Lib.hid hV
    have HM := Lib.hid hm
    clear hV hm
    go_enter Try.func9, Try.ntmps9
    go_wp2_with (refine wpList_load_row rfl 25 _ rfl w.heap.size rfl 25 (capv x) (0, 0) _ ?_ Try.underlying25 rfl cap_size ?_; exact HC.out)
    refine (valid_any x HX.out _).mono ?_
    rintro e W0 ⟨rfl, b⟩
    rw [decide_eq_true HM.out]
    have HC0 := Lib.hid (HC.out.below b HL.out)
    have HB0 := Lib.hid (HB.out.trans (b.mono HB.out.size))
    have c0 := HC0.out.cell 0
    simp only [List.getElem?_toArray, List.getElem?_cons_zero] at c0
    clear b
    go_wp2_with fail
    refine (widthsOf_any x.form W0).mono ?_
    rintro e W1 ⟨rfl, b⟩
    have HC1 := Lib.hid (HC0.out.below b HC0.out.lt)
    have HB1 := Lib.hid (HB0.out.trans (b.mono HB0.out.size))
    clear b c0
    obtain ⟨W2, hW2⟩ : ∃ W2, W2 = W1.alloc (.cells #[.int .i64 (wOwn x.form : Int), .int .i64 (wPeer x.form : Int), .int .i64 (wLen x.form : Int), .int .i64 (wSum x.form : Int)] 47) := ⟨_, rfl⟩
    obtain ⟨g, hg⟩ : ∃ g, g = W1.heap.size := ⟨_, rfl⟩
    have HC2 := Lib.hid (show Blk W2 w.heap.size 25 (capv x) by rw [hW2]; exact HC1.out.alloc _)
    have HV2 := Lib.hid (show Blk W2 g 47 (widv x.form) by rw [hW2, hg]; exact Blk.new _ _ _)
    have HB2 := Lib.hid (show Below w.heap.size w W2 by rw [hW2]; exact HB1.out.alloc HB1.out.size _)
    have HW2 := Lib.hid hW2
    have HG := Lib.hid hg
    clear hW2 hg
    have c1 := HC2.out.cell 1
    simp only [List.getElem?_toArray, List.getElem?_cons_zero, List.getElem?_cons_succ] at c1
    rw [HW2.out] at c1
    go_wp2_with fail
    rw [← HW2.out]
    clear c1
    rw [← HG.out]
    obtain ⟨T1, hT1⟩ : ∃ T, T = txt (be 1 x.ver.toNat) := ⟨_, rfl⟩
    have HT1 := Lib.hid hT1
    have HS1 := Lib.hid (show T1.size ≤ 100 by rw [hT1, txt_size, be_length]; omega)
    clear hT1
    refine (put_at _ 1 x.ver.toNat _ _ W2 (by decide) (by omega) (by have := HM.out.2.1; omega) T1 (by rw [HT1.out]; exact (txt_app [] _)) ?N1 rfl).mono ?_
    case N1 => have := HM.out.2.1; simp only [IntKind.wrap_u64]; omega
    rintro e W3 ⟨rfl, b⟩
    have HC3 := Lib.hid (HC2.out.below b HC2.out.lt)
    have HV3 := Lib.hid (HV2.out.below b HV2.out.lt)
    have HB3 := Lib.hid (HB2.out.trans (b.mono HB2.out.size))
    clear b
    go_wp2_with (refine wpList_load_row rfl 25 _ rfl w.heap.size rfl 25 (capv x) (0, 0) _ ?_ Try.underlying25 rfl cap_size ?_; exact HC3.out)
    refine (flagsOf_any x W3).mono ?_
    rintro e W4 ⟨rfl, b⟩
    have HC4 := Lib.hid (HC3.out.below b HC3.out.lt)
    have HV4 := Lib.hid (HV3.out.below b HV3.out.lt)
    have HB4 := Lib.hid (HB3.out.trans (b.mono HB3.out.size))
    clear b
    go_wp2_with fail
    obtain ⟨T2, hT2⟩ : ∃ T, T = T1 ++ txt (be 1 x.flags) := ⟨_, rfl⟩
    have HT2 := Lib.hid hT2
    have HS2 := Lib.hid (show T2.size ≤ 200 by have := HS1.out; rw [hT2, ByteArray.size_append, txt_size, be_length]; omega)
    clear hT2
    refine (put_at T1 1 (x.flags) _ _ W4 (by have := HS1.out; omega) (by omega) (by have := x.flags_lt; omega) T2 HT2.out.symm ?N2 rfl).mono ?_
    case N2 => rfl
    rintro e W5 ⟨rfl, b⟩
    have HC5 := Lib.hid (HC4.out.below b HC4.out.lt)
    have HV5 := Lib.hid (HV4.out.below b HV4.out.lt)
    have HB5 := Lib.hid (HB4.out.trans (b.mono HB4.out.size))
    clear b
    have v0 := HV5.out.cell 0
    have c4 := HC5.out.cell 4
    simp only [List.getElem?_toArray, List.getElem?_cons_zero, List.getElem?_cons_succ] at v0 c4
    go_wp2_with fail
    clear v0 c4
    obtain ⟨T3, hT3⟩ : ∃ T, T = T2 ++ txt (be (wOwn x.form) x.own) := ⟨_, rfl⟩
    have HT3 := Lib.hid hT3
    have HS3 := Lib.hid (show T3.size ≤ 300 by have := HS2.out; rw [hT3, ByteArray.size_append, txt_size, be_length]; rcases c_own x.form with h | h | h | h <;> omega)
    clear hT3
    refine (put_at T2 ((wOwn x.form)) (x.own) _ _ W5 (by have := HS2.out; omega) (c_own x.form) (w_own x HX.out HM.out) T3 HT3.out.symm ?N3 rfl).mono ?_
    case N3 => rfl
    rintro e W6 ⟨rfl, b⟩
    have HC6 := Lib.hid (HC5.out.below b HC5.out.lt)
    have HV6 := Lib.hid (HV5.out.below b HV5.out.lt)
    have HB6 := Lib.hid (HB5.out.trans (b.mono HB5.out.size))
    clear b
    have v1 := HV6.out.cell 1
    have c5 := HC6.out.cell 5
    simp only [List.getElem?_toArray, List.getElem?_cons_zero, List.getElem?_cons_succ] at v1 c5
    go_wp2_with fail
    clear v1 c5
    obtain ⟨T4, hT4⟩ : ∃ T, T = T3 ++ txt (be (wPeer x.form) x.peer) := ⟨_, rfl⟩
    have HT4 := Lib.hid hT4
    have HS4 := Lib.hid (show T4.size ≤ 400 by have := HS3.out; rw [hT4, ByteArray.size_append, txt_size, be_length]; rcases c_peer x.form with h | h | h | h <;> omega)
    clear hT4
    refine (put_at T3 ((wPeer x.form)) (x.peer) _ _ W6 (by have := HS3.out; omega) (c_peer x.form) (w_peer x HX.out HM.out) T4 HT4.out.symm ?N4 rfl).mono ?_
    case N4 => rfl
    rintro e W7 ⟨rfl, b⟩
    have HC7 := Lib.hid (HC6.out.below b HC6.out.lt)
    have HV7 := Lib.hid (HV6.out.below b HV6.out.lt)
    have HB7 := Lib.hid (HB6.out.trans (b.mono HB6.out.size))
    clear b
    have v2 := HV7.out.cell 2
    have c6 := HC7.out.cell 6
    simp only [List.getElem?_toArray, List.getElem?_cons_zero, List.getElem?_cons_succ] at v2 c6
    go_wp2_with fail
    clear v2 c6
    obtain ⟨T5, hT5⟩ : ∃ T, T = T4 ++ txt (be (wLen x.form) x.len.toNat) := ⟨_, rfl⟩
    have HT5 := Lib.hid hT5
    have HS5 := Lib.hid (show T5.size ≤ 500 by have := HS4.out; rw [hT5, ByteArray.size_append, txt_size, be_length]; rcases c_len x.form with h | h | h | h <;> omega)
    clear hT5
    refine (put_at T4 ((wLen x.form)) (x.len.toNat) _ _ W7 (by have := HS4.out; omega) (c_len x.form) (w_len x HM.out) T5 HT5.out.symm ?N5 rfl).mono ?_
    case N5 => have := HM.out.2.2.1; rw [IntKind.wrap_u64]; omega
    rintro e W8 ⟨rfl, b⟩
    have HC8 := Lib.hid (HC7.out.below b HC7.out.lt)
    have HV8 := Lib.hid (HV7.out.below b HV7.out.lt)
    have HB8 := Lib.hid (HB7.out.trans (b.mono HB7.out.size))
    clear b
    have v3 := HV8.out.cell 3
    have c7 := HC8.out.cell 7
    simp only [List.getElem?_toArray, List.getElem?_cons_zero, List.getElem?_cons_succ] at v3 c7
    go_wp2_with fail
    clear v3 c7
    obtain ⟨T6, hT6⟩ : ∃ T, T = T5 ++ txt (be (wSum x.form) x.sum) := ⟨_, rfl⟩
    have HT6 := Lib.hid hT6
    have HS6 := Lib.hid (show T6.size ≤ 600 by have := HS5.out; rw [hT6, ByteArray.size_append, txt_size, be_length]; rcases c_sum x.form with h | h | h | h <;> omega)
    clear hT6
    refine (put_at T5 ((wSum x.form)) (x.sum) _ _ W8 (by have := HS5.out; omega) (c_sum x.form) (w_sum x HX.out HM.out) T6 HT6.out.symm ?N6 rfl).mono ?_
    case N6 => have := HX.out.sum; rw [IntKind.wrap_u64]; omega
    rintro e W9 ⟨rfl, b⟩
    have HC9 := Lib.hid (HC8.out.below b HC8.out.lt)
    have HV9 := Lib.hid (HV8.out.below b HV8.out.lt)
    have HB9 := Lib.hid (HB8.out.trans (b.mono HB8.out.size))
    clear b
    go_wp2_with fail
    go_ret2
    refine ⟨?_, HB9.out⟩
    show Ending.returned (.tuple #[.string T6, .int .i64 0]) = _
    rw [HVV.out, ← HT1.out, ← HT2.out, ← HT3.out, ← HT4.out, ← HT5.out, ← HT6.out]
  · rw [encV_f x hm] at hV
    subst hV
    have HM := Lib.hid hm
    clear hm
    go_enter Try.func9, Try.ntmps9
    go_wp2_with (refine wpList_load_row rfl 25 _ rfl w.heap.size rfl 25 (capv x) (0, 0) _ ?_ Try.underlying25 rfl cap_size ?_; exact HC.out)
    refine (valid_any x HX.out _).mono ?_
    rintro e W0 ⟨rfl, b⟩
    rw [decide_eq_false HM.out]
    have HB0 := Lib.hid (HB.out.trans (b.mono HB.out.size))
    clear b
    go_wp2_with fail
    go_ret2
    exact ⟨rfl, HB0.out⟩
end Go.Proofs.Ytpedbmnifjhaiaa
