/-
  What the functions of package seq answer, each by its walk: Before, Plus, Gap, In and Far, and the generic functions below them; a caller gives the answer g, and that it fits.
-/
import Derived.Test.YtffbokidmjokmaaRows
import Derived.WalkKit
import Derived.ProofKit
import Derived.OpenShut
import Derived.Lib.Hide
namespace Go.Proofs.Ytffbokidmjokmaa
open Go.ChangeShapes Go.WideShapes Go.ChangeAt Go.RowKit
set_option linter.unusedVariables false

theorem ones32 : bits BinOp.xor IntKind.u32 IntKind.u32.max 0 = 4294967295 := by kernel_rfl
theorem ones64 : bits BinOp.xor IntKind.u64 IntKind.u64.max 0 = 18446744073709551615 := by kernel_rfl
theorem ret_bool {a b : Bool} (h : a = b) : Ending.returned (.bool a) = .returned (.bool b) := by rw [h]
theorem ret_int {k : IntKind} {a b : Int} (h : a = b) : Ending.returned (.int k a) = .returned (.int k b) := by rw [h]

/-! ### before -/
theorem before32_t (a b g : Int) (ha : 0 ≤ a) (ha' : a ≤ 4294967295) (hb : 0 ≤ b) (hb' : b ≤ 4294967295)
    (h : g = b - a ∨ g = b - a + 4294967296) (h0 : 0 < g) (h1 : g ≤ 2147483647) (w : World) :
    Calls Try.prog 22 #[.int .u32 a, .int .u32 b] w fun e w' => e = .returned (.bool true) ∧ w = w' := by
  have e : (b - a) % 4294967296 = g := by omega
  have e1 : (g != 0) = true := by simp; omega
  clear h
  go_enter Try.func22, Try.ntmps22
  go_wp2
  go_ret; exact ⟨ret_bool (by rw [ones32]; simp; omega), rfl⟩

theorem before32_f (a b g : Int) (ha : 0 ≤ a) (ha' : a ≤ 4294967295) (hb : 0 ≤ b) (hb' : b ≤ 4294967295)
    (h : g = b - a ∨ g = b - a - 4294967296) (h0 : -2147483648 ≤ g) (h1 : g ≤ 0) (w : World) :
    Calls Try.prog 22 #[.int .u32 a, .int .u32 b] w fun e w' => e = .returned (.bool false) ∧ w = w' := by
  by_cases hz : g = 0
  · have e : (b - a) % 4294967296 = 0 := by omega
    clear h
    go_enter Try.func22, Try.ntmps22
    go_wp2
    go_ret; exact ⟨rfl, rfl⟩
  · have e : (b - a) % 4294967296 = g + 4294967296 := by omega
    have e1 : (g + 4294967296 != 0) = true := by simp; omega
    clear h
    go_enter Try.func22, Try.ntmps22
    go_wp2
    go_ret; exact ⟨ret_bool (by rw [ones32]; simp; omega), rfl⟩

theorem before64_t (a b g : Int) (ha : 0 ≤ a) (ha' : a ≤ 18446744073709551615) (hb : 0 ≤ b) (hb' : b ≤ 18446744073709551615)
    (h : g = b - a ∨ g = b - a + 18446744073709551616) (h0 : 0 < g) (h1 : g ≤ 9223372036854775807) (w : World) :
    Calls Try.prog 30 #[.int .u64 a, .int .u64 b] w fun e w' => e = .returned (.bool true) ∧ w = w' := by
  rcases h with h | h
  · subst h
    have e1 : (b - a != 0) = true := by simp; omega
    go_enter Try.func30, Try.ntmps30
    go_wp2
    go_ret; exact ⟨ret_bool (by rw [ones64]; simp; omega), rfl⟩
  · have e : IntKind.u64.wrap (b - a) = g := by rw [IntKind.wrap_u64]; omega
    have e1 : (g != 0) = true := by simp; omega
    clear h
    go_enter Try.func30, Try.ntmps30
    go_wp2
    go_ret; exact ⟨ret_bool (by rw [ones64]; simp; omega), rfl⟩

theorem before64_f (a b g : Int) (ha : 0 ≤ a) (ha' : a ≤ 18446744073709551615) (hb : 0 ≤ b) (hb' : b ≤ 18446744073709551615)
    (h : g = b - a ∨ g = b - a - 18446744073709551616) (h0 : -9223372036854775808 ≤ g) (h1 : g ≤ 0) (w : World) :
    Calls Try.prog 30 #[.int .u64 a, .int .u64 b] w fun e w' => e = .returned (.bool false) ∧ w = w' := by
  by_cases hz : g = 0
  · obtain rfl : b = a := by omega
    clear h
    go_enter Try.func30, Try.ntmps30
    go_wp2
    go_ret; exact ⟨rfl, rfl⟩
  · obtain ⟨c, hc⟩ : ∃ c, c = g + 18446744073709551616 := ⟨_, rfl⟩
    have e : IntKind.u64.wrap (b - a) = c := by rw [IntKind.wrap_u64]; omega
    have e0 : 9223372036854775808 ≤ c := by omega
    have e1 : (c != 0) = true := by simp; omega
    have e2 : ¬ c = b - a ∨ c = b - a := by omega
    by_cases hp : c = b - a
    · subst hp
      clear hc h e
      go_enter Try.func30, Try.ntmps30
      go_wp2
      go_ret; exact ⟨ret_bool (by rw [ones64]; simp; omega), rfl⟩
    · clear hc h e2
      go_enter Try.func30, Try.ntmps30
      go_wp2
      go_ret; exact ⟨ret_bool (by rw [ones64]; simp; omega), rfl⟩

/-! ### apart -/
theorem apart32_t (a b g : Int) (ha : 0 ≤ a) (ha' : a ≤ 4294967295) (hb : 0 ≤ b) (hb' : b ≤ 4294967295)
    (h : g = b - a ∨ g = b - a + 4294967296) (h0 : 0 < g) (h1 : g ≤ 2147483647) (w : World) :
    Calls Try.prog 28 #[.int .u32 a, .int .u32 b] w fun e w' => e = .returned (.int .u32 g) ∧ w = w' := by
  have e := Lib.hid (show (b - a) % 4294967296 = g by omega)
  go_enter Try.func28, Try.ntmps28
  go_wp2_with (go_at_call 22; refine (before32_t a b g ha ha' hb hb' h h0 h1 _).mono ?_; rintro e w' ⟨rfl, rfl⟩)
  go_ret; exact ⟨ret_int (by have := e.out; omega), rfl⟩

theorem apart32_f (a b g : Int) (ha : 0 ≤ a) (ha' : a ≤ 4294967295) (hb : 0 ≤ b) (hb' : b ≤ 4294967295)
    (h : g = b - a ∨ g = b - a - 4294967296) (h0 : -2147483648 ≤ g) (h1 : g ≤ 0) (w : World) :
    Calls Try.prog 28 #[.int .u32 a, .int .u32 b] w fun e w' => e = .returned (.int .u32 (-g)) ∧ w = w' := by
  have e := Lib.hid (show (a - b) % 4294967296 = -g by omega)
  go_enter Try.func28, Try.ntmps28
  go_wp2_with (go_at_call 22; refine (before32_f a b g ha ha' hb hb' h h0 h1 _).mono ?_; rintro e w' ⟨rfl, rfl⟩)
  go_ret; exact ⟨ret_int (by have := e.out; omega), rfl⟩

theorem apart64_t (a b g : Int) (ha : 0 ≤ a) (ha' : a ≤ 18446744073709551615) (hb : 0 ≤ b) (hb' : b ≤ 18446744073709551615)
    (h : g = b - a ∨ g = b - a + 18446744073709551616) (h0 : 0 < g) (h1 : g ≤ 9223372036854775807) (w : World) :
    Calls Try.prog 26 #[.int .u64 a, .int .u64 b] w fun e w' => e = .returned (.int .u64 g) ∧ w = w' := by
  have e := Lib.hid (show IntKind.u64.wrap (b - a) = g by rw [IntKind.wrap_u64]; omega)
  have H := Lib.hid h
  clear h
  go_enter Try.func26, Try.ntmps26
  go_wp2_with (go_at_call 30; refine (before64_t a b g ha ha' hb hb' H.out h0 h1 _).mono ?_; rintro e w' ⟨rfl, rfl⟩)
  go_ret; exact ⟨ret_int e.out, rfl⟩

theorem apart64_f (a b g : Int) (ha : 0 ≤ a) (ha' : a ≤ 18446744073709551615) (hb : 0 ≤ b) (hb' : b ≤ 18446744073709551615)
    (h : g = b - a ∨ g = b - a - 18446744073709551616) (h0 : -9223372036854775808 ≤ g) (h1 : g ≤ 0) (w : World) :
    Calls Try.prog 26 #[.int .u64 a, .int .u64 b] w fun e w' => e = .returned (.int .u64 (-g)) ∧ w = w' := by
  have e := Lib.hid (show IntKind.u64.wrap (a - b) = -g by rw [IntKind.wrap_u64]; omega)
  have H := Lib.hid h
  clear h
  go_enter Try.func26, Try.ntmps26
  go_wp2_with (go_at_call 30; refine (before64_f a b g ha ha' hb hb' H.out h0 h1 _).mono ?_; rintro e w' ⟨rfl, rfl⟩)
  go_ret; exact ⟨ret_int e.out, rfl⟩

/-! ### gap -/
theorem gap32 (a b g : Int) (ha : 0 ≤ a) (ha' : a ≤ 4294967295) (hb : 0 ≤ b) (hb' : b ≤ 4294967295)
    (h : g = b - a ∨ g = b - a + 4294967296 ∨ g = b - a - 4294967296) (h0 : -2147483648 ≤ g) (h1 : g ≤ 2147483647) (w : World) :
    Calls Try.prog 24 #[.int .u32 a, .int .u32 b] w fun e w' => e = .returned (.int .i64 g) ∧ w = w' := by
  have H := Lib.hid h
  clear h
  by_cases hg : 0 < g
  · go_enter Try.func24, Try.ntmps24
    go_wp2_with (first
      | (go_at_call 22; refine (before32_t a b g ha ha' hb hb' (by have := H.out; omega) hg h1 _).mono ?_; rintro e w' ⟨rfl, rfl⟩)
      | (go_at_call 28; refine (apart32_t a b g ha ha' hb hb' (by have := H.out; omega) hg h1 _).mono ?_; rintro e w' ⟨rfl, rfl⟩))
    go_ret; exact ⟨rfl, rfl⟩
  · have hg' : g ≤ 0 := by omega
    go_enter Try.func24, Try.ntmps24
    go_wp2_with (first
      | (go_at_call 22; refine (before32_f a b g ha ha' hb hb' (by have := H.out; omega) h0 hg' _).mono ?_; rintro e w' ⟨rfl, rfl⟩)
      | (go_at_call 28; refine (apart32_f a b g ha ha' hb hb' (by have := H.out; omega) h0 hg' _).mono ?_; rintro e w' ⟨rfl, rfl⟩))
    go_ret; exact ⟨ret_int (by omega), rfl⟩

theorem gap64 (a b g : Int) (ha : 0 ≤ a) (ha' : a ≤ 18446744073709551615) (hb : 0 ≤ b) (hb' : b ≤ 18446744073709551615)
    (h : g = b - a ∨ g = b - a + 18446744073709551616 ∨ g = b - a - 18446744073709551616) (h0 : -9223372036854775808 ≤ g) (h1 : g ≤ 9223372036854775807) (w : World) :
    Calls Try.prog 27 #[.int .u64 a, .int .u64 b] w fun e w' => e = .returned (.int .i64 g) ∧ w = w' := by
  have H := Lib.hid h
  clear h
  by_cases hg : 0 < g
  · go_enter Try.func27, Try.ntmps27
    go_wp2_with (first
      | (go_at_call 30; refine (before64_t a b g ha ha' hb hb' (by have := H.out; omega) hg h1 _).mono ?_; rintro e w' ⟨rfl, rfl⟩)
      | (go_at_call 26; refine (apart64_t a b g ha ha' hb hb' (by have := H.out; omega) hg h1 _).mono ?_; rintro e w' ⟨rfl, rfl⟩))
    go_ret; exact ⟨rfl, rfl⟩
  · have hg' : g ≤ 0 := by omega
    go_enter Try.func27, Try.ntmps27
    go_wp2_with (first
      | (go_at_call 30; refine (before64_f a b g ha ha' hb hb' (by have := H.out; omega) h0 hg' _).mono ?_; rintro e w' ⟨rfl, rfl⟩)
      | (go_at_call 26; refine (apart64_f a b g ha ha' hb hb' (by have := H.out; omega) h0 hg' _).mono ?_; rintro e w' ⟨rfl, rfl⟩))
    go_ret; exact ⟨ret_int (by simp only [wrap64]; omega), rfl⟩

/-! ### the exported ones -/
theorem Before_t (a b g : Int) (ha : 0 ≤ a) (ha' : a ≤ 4294967295) (hb : 0 ≤ b) (hb' : b ≤ 4294967295)
    (h : g = b - a ∨ g = b - a + 4294967296) (h0 : 0 < g) (h1 : g ≤ 2147483647) (w : World) :
    Calls Try.prog 10 #[.int .u32 a, .int .u32 b] w fun e w' => e = .returned (.bool true) ∧ w = w' := by
  go_enter Try.func10, Try.ntmps10
  go_wp2_with (go_at_call 22; refine (before32_t a b g ha ha' hb hb' h h0 h1 _).mono ?_; rintro e w' ⟨rfl, rfl⟩)
  go_ret; exact ⟨rfl, rfl⟩
theorem Before_f (a b g : Int) (ha : 0 ≤ a) (ha' : a ≤ 4294967295) (hb : 0 ≤ b) (hb' : b ≤ 4294967295)
    (h : g = b - a ∨ g = b - a - 4294967296) (h0 : -2147483648 ≤ g) (h1 : g ≤ 0) (w : World) :
    Calls Try.prog 10 #[.int .u32 a, .int .u32 b] w fun e w' => e = .returned (.bool false) ∧ w = w' := by
  go_enter Try.func10, Try.ntmps10
  go_wp2_with (go_at_call 22; refine (before32_f a b g ha ha' hb hb' h h0 h1 _).mono ?_; rintro e w' ⟨rfl, rfl⟩)
  go_ret; exact ⟨rfl, rfl⟩
theorem Gap_any (a b g : Int) (ha : 0 ≤ a) (ha' : a ≤ 4294967295) (hb : 0 ≤ b) (hb' : b ≤ 4294967295)
    (h : g = b - a ∨ g = b - a + 4294967296 ∨ g = b - a - 4294967296) (h0 : -2147483648 ≤ g) (h1 : g ≤ 2147483647) (w : World) :
    Calls Try.prog 12 #[.int .u32 a, .int .u32 b] w fun e w' => e = .returned (.int .i64 g) ∧ w = w' := by
  go_enter Try.func12, Try.ntmps12
  go_wp2_with (go_at_call 24; refine (gap32 a b g ha ha' hb hb' h h0 h1 _).mono ?_; rintro e w' ⟨rfl, rfl⟩)
  go_ret; exact ⟨rfl, rfl⟩
theorem Far_any (a b g : Int) (ha : 0 ≤ a) (ha' : a ≤ 18446744073709551615) (hb : 0 ≤ b) (hb' : b ≤ 18446744073709551615)
    (h : g = b - a ∨ g = b - a + 18446744073709551616 ∨ g = b - a - 18446744073709551616) (h0 : -9223372036854775808 ≤ g) (h1 : g ≤ 9223372036854775807) (w : World) :
    Calls Try.prog 20 #[.int .u64 a, .int .u64 b] w fun e w' => e = .returned (.int .i64 g) ∧ w = w' := by
  have H := Lib.hid h
  clear h
  go_enter Try.func20, Try.ntmps20
  go_wp2_with (go_at_call 27; refine (gap64 a b g ha ha' hb hb' H.out h0 h1 _).mono ?_; rintro e w' ⟨rfl, rfl⟩)
  go_ret; exact ⟨rfl, rfl⟩
theorem Plus_any (a n r : Int) (hr : (a + n) % 4294967296 = r) (w : World) :
    Calls Try.prog 16 #[.int .u32 a, .int .i64 n] w fun e w' => e = .returned (.int .u32 r) ∧ w = w' := by
  have H := Lib.hid hr
  clear hr
  go_enter Try.func16, Try.ntmps16
  go_wp2
  go_ret; exact ⟨ret_int (by have := H.out; omega), rfl⟩
theorem In_t (x a n d : Int) (ha : 0 ≤ a) (ha' : a ≤ 4294967295) (hb : 0 ≤ x) (hb' : x ≤ 4294967295)
    (h : d = x - a ∨ d = x - a + 4294967296) (h0 : 0 ≤ d) (h1 : d ≤ 4294967295) (hn : d < n) (w : World) :
    Calls Try.prog 14 #[.int .u32 x, .int .u32 a, .int .i64 n] w fun e w' => e = .returned (.tuple #[.int .i64 d, .bool true]) ∧ w = w' := by
  have e : (x - a) % 4294967296 = d := by omega
  clear h
  go_enter Try.func14, Try.ntmps14
  go_wp2
  go_ret2; exact ⟨rfl, rfl⟩
theorem In_f (x a n d : Int) (ha : 0 ≤ a) (ha' : a ≤ 4294967295) (hb : 0 ≤ x) (hb' : x ≤ 4294967295)
    (h : d = x - a ∨ d = x - a + 4294967296) (h0 : 0 ≤ d) (h1 : d ≤ 4294967295) (hn : n ≤ d) (w : World) :
    Calls Try.prog 14 #[.int .u32 x, .int .u32 a, .int .i64 n] w fun e w' => e = .returned (.tuple #[.int .i64 0, .bool false]) ∧ w = w' := by
  have e : (x - a) % 4294967296 = d := by omega
  clear h
  go_enter Try.func14, Try.ntmps14
  go_wp2
  go_ret2; exact ⟨rfl, rfl⟩
end Go.Proofs.Ytffbokidmjokmaa
