/-
  What the functions of package plaitref01 (the document's answers of layer 1) answer, each by its walk; a caller gives the answer, and that it fits.
-/
import Derived.Test.YtffbokidmjokmaaSeqWalks
namespace Go.Proofs.Ytffbokidmjokmaa
open Go.ChangeShapes Go.WideShapes Go.ChangeAt Go.RowKit
set_option linter.unusedVariables false

theorem Way_ref (a b d : Int) (ha : 0 ≤ a) (ha' : a ≤ 4294967295) (hb : 0 ≤ b) (hb' : b ≤ 4294967295)
    (h : d = b - a ∨ d = b - a + 4294967296) (h0 : 0 ≤ d) (h1 : d ≤ 4294967295) (w : World) :
    Calls Try.prog 23 #[.int .u32 a, .int .u32 b] w fun e w' => e = .returned (.int .u64 d) ∧ w = w' := by
  have H := Lib.hid h
  clear h
  by_cases hc : a ≤ b
  · go_enter Try.func23, Try.ntmps23
    go_wp2
    go_ret; exact ⟨ret_int (by have := H.out; omega), rfl⟩
  · go_enter Try.func23, Try.ntmps23
    go_wp2
    go_ret; exact ⟨ret_int (by have := H.out; omega), rfl⟩

theorem Before_ref_t (a b d : Int) (ha : 0 ≤ a) (ha' : a ≤ 4294967295) (hb : 0 ≤ b) (hb' : b ≤ 4294967295)
    (h : d = b - a ∨ d = b - a + 4294967296) (h0 : 0 < d) (h1 : d ≤ 2147483647) (w : World) :
    Calls Try.prog 11 #[.int .u32 a, .int .u32 b] w fun e w' => e = .returned (.bool true) ∧ w = w' := by
  have H := Lib.hid h
  clear h
  go_enter Try.func11, Try.ntmps11
  go_wp2_with (go_at_call 23; refine (Way_ref a b d ha ha' hb hb' H.out (by omega) (by omega) _).mono ?_; rintro e w' ⟨rfl, rfl⟩)
  go_ret; exact ⟨ret_bool (by simp), rfl⟩

theorem Before_ref_f (a b d : Int) (ha : 0 ≤ a) (ha' : a ≤ 4294967295) (hb : 0 ≤ b) (hb' : b ≤ 4294967295)
    (h : d = b - a ∨ d = b - a + 4294967296) (h0 : 0 ≤ d) (h1 : d ≤ 4294967295) (h2 : d = 0 ∨ 2147483648 ≤ d) (w : World) :
    Calls Try.prog 11 #[.int .u32 a, .int .u32 b] w fun e w' => e = .returned (.bool false) ∧ w = w' := by
  have H := Lib.hid h
  clear h
  by_cases hd : 1 ≤ d
  · have h3 : 2147483648 ≤ d := by omega
    clear h2
    go_enter Try.func11, Try.ntmps11
    go_wp2_with (go_at_call 23; refine (Way_ref a b d ha ha' hb hb' H.out (by omega) (by omega) _).mono ?_; rintro e w' ⟨rfl, rfl⟩)
    go_ret; exact ⟨ret_bool (by simp; omega), rfl⟩
  · clear h2
    have t1 : decide (1 ≤ d) = false := by simp; omega
    go_enter Try.func11, Try.ntmps11
    go_wp2_with (go_at_call 23; refine (Way_ref a b d ha ha' hb hb' H.out (by omega) (by omega) _).mono ?_; rintro e w' ⟨rfl, rfl⟩)
    go_ret; exact ⟨rfl, rfl⟩

theorem Plus_ref (a n r : Int) (ha : 0 ≤ a) (ha' : a ≤ 4294967295) (hr : (a + n) % 4294967296 = r) (w : World) :
    Calls Try.prog 9 #[.int .u32 a, .int .i64 n] w fun e w' => e = .returned (.int .u32 r) ∧ w = w' := by
  have H := Lib.hid hr
  clear hr
  obtain ⟨m, hm⟩ : ∃ m, m = n.tmod 4294967296 := ⟨_, rfl⟩
  have E := Lib.hid hm.symm
  have b1 : -4294967296 < m ∧ m < 4294967296 := by rw [hm]; exact ⟨Int.lt_tmod_of_pos _ (by omega), Int.tmod_lt_of_pos _ (by omega)⟩
  have b2 := Lib.hid (show m % 4294967296 = n % 4294967296 by rw [hm, Int.tmod_def]; omega)
  clear hm
  obtain ⟨b1, b1'⟩ := b1
  have e := E.out
  by_cases hc : m < 0
  · go_enter Try.func9, Try.ntmps9
    go_wp2
    go_ret; exact ⟨ret_int (by have := H.out; have := b2.out; omega), rfl⟩
  · go_enter Try.func9, Try.ntmps9
    go_wp2
    go_ret; exact ⟨ret_int (by have := H.out; have := b2.out; omega), rfl⟩

theorem Gap_ref (a b g : Int) (ha : 0 ≤ a) (ha' : a ≤ 4294967295) (hb : 0 ≤ b) (hb' : b ≤ 4294967295)
    (h : g = b - a ∨ g = b - a + 4294967296 ∨ g = b - a - 4294967296) (h0 : -2147483648 ≤ g) (h1 : g ≤ 2147483647) (w : World) :
    Calls Try.prog 13 #[.int .u32 a, .int .u32 b] w fun e w' => e = .returned (.int .i64 g) ∧ w = w' := by
  have H := Lib.hid h
  clear h
  by_cases hc : 0 ≤ g
  · go_enter Try.func13, Try.ntmps13
    go_wp2_with (go_at_call 23; refine (Way_ref a b g ha ha' hb hb' (by have := H.out; omega) (by omega) (by omega) _).mono ?_; rintro e w' ⟨rfl, rfl⟩)
    go_ret; exact ⟨rfl, rfl⟩
  · go_enter Try.func13, Try.ntmps13
    go_wp2_with (go_at_call 23; refine (Way_ref a b (g + 4294967296) ha ha' hb hb' (by have := H.out; omega) (by omega) (by omega) _).mono ?_; rintro e w' ⟨rfl, rfl⟩)
    go_ret; exact ⟨ret_int (by omega), rfl⟩

theorem In_ref_t (x a n d : Int) (ha : 0 ≤ a) (ha' : a ≤ 4294967295) (hb : 0 ≤ x) (hb' : x ≤ 4294967295)
    (h : d = x - a ∨ d = x - a + 4294967296) (h0 : 0 ≤ d) (h1 : d ≤ 4294967295) (hn : d < n) (w : World) :
    Calls Try.prog 15 #[.int .u32 x, .int .u32 a, .int .i64 n] w fun e w' => e = .returned (.tuple #[.int .i64 d, .bool true]) ∧ w = w' := by
  have H := Lib.hid h
  clear h
  go_enter Try.func15, Try.ntmps15
  go_wp2_with (go_at_call 23; refine (Way_ref a x d ha ha' hb hb' H.out h0 h1 _).mono ?_; rintro e w' ⟨rfl, rfl⟩)
  go_ret2; exact ⟨rfl, rfl⟩
theorem In_ref_f (x a n d : Int) (ha : 0 ≤ a) (ha' : a ≤ 4294967295) (hb : 0 ≤ x) (hb' : x ≤ 4294967295)
    (h : d = x - a ∨ d = x - a + 4294967296) (h0 : 0 ≤ d) (h1 : d ≤ 4294967295) (hn : n ≤ d) (w : World) :
    Calls Try.prog 15 #[.int .u32 x, .int .u32 a, .int .i64 n] w fun e w' => e = .returned (.tuple #[.int .i64 0, .bool false]) ∧ w = w' := by
  have H := Lib.hid h
  clear h
  go_enter Try.func15, Try.ntmps15
  go_wp2_with (go_at_call 23; refine (Way_ref a x d ha ha' hb hb' H.out h0 h1 _).mono ?_; rintro e w' ⟨rfl, rfl⟩)
  go_ret2; exact ⟨rfl, rfl⟩

/-- 'Expand': the one number r with these lowest 32 bits, less than 2^31 ahead of near, or from it on as far as 2^31, round the end. -/
theorem Expand_ref (low near r : Int) (hl : 0 ≤ low) (hl' : low ≤ 4294967295) (hn : 0 ≤ near) (hn' : near ≤ 18446744073709551615)
    (h : ∃ d, -2147483648 < d ∧ d ≤ 2147483648 ∧ (near + d) % 4294967296 = low ∧ (near + d) % 18446744073709551616 = r) (w : World) :
    Calls Try.prog 19 #[.int .u32 low, .int .u64 near] w fun e w' => e = .returned (.int .u64 r) ∧ w = w' := by
  obtain ⟨d, d0, d1, hlow, hr⟩ := h
  have HL := Lib.hid hlow
  have HR := Lib.hid hr
  clear hlow hr
  have hm : 0 ≤ near % 4294967296 ∧ near % 4294967296 ≤ 4294967295 := by omega
  obtain ⟨hm, hm'⟩ := hm
  by_cases hc : 0 ≤ d
  · go_enter Try.func19, Try.ntmps19
    go_wp2_with (go_at_call 23; refine (Way_ref _ low d hm hm' hl hl' (by have := HL.out; omega) (by omega) (by omega) _).mono ?_; rintro e w' ⟨rfl, rfl⟩)
    go_ret; exact ⟨ret_int (by have := HR.out; rw [IntKind.wrap_u64]; omega), rfl⟩
  · go_enter Try.func19, Try.ntmps19
    go_wp2_with (go_at_call 23; refine (Way_ref _ low (d + 4294967296) hm hm' hl hl' (by have := HL.out; omega) (by omega) (by omega) _).mono ?_; rintro e w' ⟨rfl, rfl⟩)
    go_ret; exact ⟨ret_int (by have := HR.out; rw [IntKind.wrap_u64]; omega), rfl⟩

theorem Far_ref (a b g : Int) (ha : 0 ≤ a) (ha' : a ≤ 18446744073709551615) (hb : 0 ≤ b) (hb' : b ≤ 18446744073709551615)
    (h : g = b - a ∨ g = b - a + 18446744073709551616 ∨ g = b - a - 18446744073709551616) (h0 : -9223372036854775808 ≤ g) (h1 : g ≤ 9223372036854775807) (w : World) :
    Calls Try.prog 21 #[.int .u64 a, .int .u64 b] w fun e w' => e = .returned (.int .i64 g) ∧ w = w' := by
  have H := Lib.hid h
  clear h
  by_cases hc : a ≤ b
  · go_enter Try.func21, Try.ntmps21
    go_wp2
    go_ret; exact ⟨ret_int (by have := H.out; simp only [wrap64]; omega), rfl⟩
  · go_enter Try.func21, Try.ntmps21
    go_wp2
    go_ret; exact ⟨ret_int (by have := H.out; simp only [wrap64]; omega), rfl⟩
end Go.Proofs.Ytffbokidmjokmaa
