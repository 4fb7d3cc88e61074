/-
  What the small functions of package hmac answer, each by its walk: within, Left, Right, byteAt.
-/
import Derived.Test.YtcbakfnpbhgjoaaDoorHmacPlain
import Derived.Deep.Slices
namespace Go.Proofs.YtcbakfnpbhgjoaaDoor
open Go.ChangeShapes Go.WideShapes Go.ChangeAt Go.RowKit
set_option linter.unusedVariables false

theorem within_any (n : Int) (h0 : -9223372036854775808 ≤ n) (h1 : n ≤ 9223372036854775807) (w : World) :
    Calls Tryd.prog 52 #[.int .i64 n] w fun e w' => e = .returned (.int .i64 ((cl n : Nat) : Int)) ∧ w = w' := by
  go_enter Tryd.func52, Tryd.ntmps52
  go_wp2
  all_goals (go_ret; exact ⟨ret_int (by unfold cl; (repeat' split at *) <;> omega), rfl⟩)
theorem byteAt_any (s : ByteArray) (k : Nat) (hk : k < 9223372036854775808) (w : World) :
    Calls Tryd.prog 76 #[.string s, .int .i64 (k : Int)] w fun e w' => e = .returned (.int .u8 ((s.data.toList.getD k 0).toNat : Int)) ∧ w = w' := by
  go_enter Tryd.func76, Tryd.ntmps76
  by_cases h : s.size ≤ k
  · have h' : (s.size : Int) ≤ k := by omega
    have e : s.data.toList.getD k 0 = 0 := by rw [List.getD_eq_getElem?_getD, List.getElem?_eq_none (by rw [len_data]; exact h)]; rfl
    rw [e]
    go_wp2
    go_ret; exact ⟨rfl, rfl⟩
  · have h' : ¬ ((s.size : Int) ≤ k) := by omega
    have e : s.data.toList.getD k 0 = s[k]'(by omega) := by
      rw [List.getD_eq_getElem?_getD, List.getElem?_eq_getElem (by rw [len_data]; omega), Option.getD_some, Array.getElem_toList]; rfl
    rw [e]
    go_wp2
    go_ret; exact ⟨rfl, rfl⟩

/-! ### Parts of a digest, as texts -/
theorem dig_len : Tryd.prog.arrayLen 32 = 32 := by kernel_rfl
theorem dig_elem (w : World) : (sizeOf (Tryd.prog.elem 32)).run Tryd.prog w = .ok 1 w := by kernel_rfl
theorem slice_all (w : World) (g : Nat) : (Instr.sliceAt 32 (.pointer (some ⟨g, 0, none⟩)) none none none).run Tryd.prog w = .ok (.slice (some ⟨g, 0, none⟩) 32 32) w := by
  rw [run_sliceAt_array_all w 32 ⟨g, 0, none⟩ digest_under, dig_elem]
  simp only [Result.andThen_ok, slicedAt, dig_len]; rfl
theorem slice_front (w : World) (g k : Nat) (hk : k ≤ 32) : (Instr.sliceAt 32 (.pointer (some ⟨g, 0, none⟩)) none (some (.int .i64 (k : Int))) none).run Tryd.prog w = .ok (.slice (some ⟨g, 0, none⟩) k 32) w := by
  rw [run_sliceAt_array_h w 32 ⟨g, 0, none⟩ digest_under .i64 k (by omega) (by rw [dig_len]; omega), dig_elem]
  simp only [Result.andThen_ok, slicedAt, dig_len, Int.toNat_natCast]; rfl
theorem slice_back (w : World) (g k : Nat) (hk : k ≤ 32) : (Instr.sliceAt 32 (.pointer (some ⟨g, 0, none⟩)) (some (.int .i64 (k : Int))) none none).run Tryd.prog w = .ok (.slice (some ⟨g, if k = 32 then 0 else k, none⟩) (32 - k) (32 - k)) w := by
  rw [run_sliceAt_array_l w 32 ⟨g, 0, none⟩ digest_under .i64 k (by omega) (by rw [dig_len]; omega), dig_elem]
  simp only [Result.andThen_ok, slicedAt, dig_len, Int.toNat_natCast, Nat.mul_one]
  by_cases h : k = 32
  · subst h; rfl
  · rw [if_neg (by omega), if_neg h, add_at, Nat.zero_add]
theorem conv_part (w : World) (g : Nat) (t : TypeId) (d l : List UInt8) (o n cap : Nat) (hb : Blk w g t (byv d)) (hn : n = l.length) (hl : ∀ j (hj : j < l.length), d[o + j]? = some l[j]) :
    (convert 35 9 (.slice (some ⟨g, o, none⟩) n cap)).run Tryd.prog w = .ok (.string (txt l)) w := by
  subst hn
  refine run_convert_bytes_back _ 35 9 5 ⟨g, o, none⟩ cap l Tryd.underlying35 Tryd.underlying5 Tryd.underlying9 fun j hj => ?_
  rw [add_at, hb.cell]
  have := hl j hj
  simp [byv, this]
theorem conv_front (w : World) (g : Nat) (t : TypeId) (d : List UInt8) (n cap : Nat) (hb : Blk w g t (byv d)) (hn : n ≤ d.length) :
    (convert 35 9 (.slice (some ⟨g, 0, none⟩) n cap)).run Tryd.prog w = .ok (.string (txt (d.take n))) w :=
  conv_part w g t d (d.take n) 0 n cap hb (by rw [List.length_take]; omega) fun j hj => by
    rw [Nat.zero_add, List.getElem_take, List.getElem?_eq_getElem]
theorem conv_back (w : World) (g : Nat) (t : TypeId) (d : List UInt8) (k cap : Nat) (hb : Blk w g t (byv d)) (hd : d.length = 32) (hk : k ≤ 32) :
    (convert 35 9 (.slice (some ⟨g, if k = 32 then 0 else k, none⟩) (32 - k) cap)).run Tryd.prog w = .ok (.string (txt (d.drop k))) w :=
  conv_part w g t d (d.drop k) _ (32 - k) cap hb (by rw [List.length_drop, hd]) fun j hj => by
    rw [List.length_drop, hd] at hj
    rw [if_neg (by omega), List.getElem_drop, List.getElem?_eq_getElem]

set_option maxRecDepth 100000 in
theorem Left_any (d : List UInt8) (hd : d.length = 32) (n : Int) (h0 : -9223372036854775808 ≤ n) (h1 : n ≤ 9223372036854775807) (w : World) :
    Calls Tryd.prog 27 #[.agg (byv d), .int .i64 n] w fun e w' => e = .returned (.string (txt (d.take (cl n)))) ∧ Below w.heap.size w w' := by
  obtain ⟨A, hA⟩ : ∃ A, A = byv d := ⟨_, rfl⟩
  have hc := cl_le n
  have hs := fun W => slice_front W w.heap.size (cl n) hc
  have hv := conv_front (w.alloc (.cells A 32)) w.heap.size 32 d (cl n) 32 (by rw [← hA]; exact Blk.new w _ _) (by omega)
  have hb : Below w.heap.size w (w.alloc (.cells A 32)) := (Below.refl _ w).alloc (Nat.le_refl _) _
  obtain ⟨T, hT⟩ : ∃ T, T = txt (d.take (cl n)) := ⟨_, rfl⟩
  have HB := Lib.hid hb
  clear hb
  rw [← hT] at hv ⊢
  rw [← hA]
  clear hA hT
  go_enter Tryd.func27, Tryd.ntmps27
  go_wp2_with fail
  refine (within_any n h0 h1 _).mono ?_
  rintro e W1 ⟨rfl, rfl⟩
  go_wp2_with fail
  go_ret; exact ⟨rfl, HB.out⟩
set_option maxRecDepth 100000 in
theorem Right_any (d : List UInt8) (hd : d.length = 32) (n : Int) (h0 : -9223372036854775808 ≤ n) (h1 : n ≤ 9223372036854775807) (w : World) :
    Calls Tryd.prog 30 #[.agg (byv d), .int .i64 n] w fun e w' => e = .returned (.string (txt (d.drop (32 - cl n)))) ∧ Below w.heap.size w w' := by
  obtain ⟨A, hA⟩ : ∃ A, A = byv d := ⟨_, rfl⟩
  have hc := cl_le n
  obtain ⟨k, hk⟩ : ∃ k, k = 32 - cl n := ⟨_, rfl⟩
  have hk2 : k ≤ 32 := by omega
  have hs := fun W => slice_back W w.heap.size k hk2
  have hv := conv_back (w.alloc (.cells A 32)) w.heap.size 32 d k (32 - k) (by rw [← hA]; exact Blk.new w _ _) hd hk2
  have hb : Below w.heap.size w (w.alloc (.cells A 32)) := (Below.refl _ w).alloc (Nat.le_refl _) _
  rw [← hk]
  obtain ⟨T, hT⟩ : ∃ T, T = txt (d.drop k) := ⟨_, rfl⟩
  obtain ⟨o, ho⟩ : ∃ o, o = (if k = 32 then 0 else k) := ⟨_, rfl⟩
  obtain ⟨m, hm⟩ : ∃ m, m = 32 - k := ⟨_, rfl⟩
  have HB := Lib.hid hb
  clear hb
  rw [← hT] at hv ⊢
  rw [← ho, ← hm] at hv
  simp only [← ho, ← hm] at hs
  rw [← hA]
  clear hA hT
  have hw : (32 : Int) - ((cl n : Nat) : Int) = (k : Int) := by omega
  go_enter Tryd.func30, Tryd.ntmps30
  go_wp2_with fail
  refine (within_any n h0 h1 _).mono ?_
  rintro e W1 ⟨rfl, rfl⟩
  clear hm ho hk
  go_wp2_with fail
  go_ret; exact ⟨rfl, HB.out⟩
end Go.Proofs.YtcbakfnpbhgjoaaDoor
