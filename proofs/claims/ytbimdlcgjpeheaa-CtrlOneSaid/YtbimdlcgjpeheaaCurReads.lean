/-
  What a cursor reads: read, U8, U16, U32, U64 and Take, each by its walk.
-/
import Derived.Test.YtbimdlcgjpeheaaCurWalks
import Derived.Test.YtbimdlcgjpeheaaCurPlain
namespace Go.Proofs.Ytbimdlcgjpeheaa
open Go.ChangeShapes Go.WideShapes Go.ChangeAt Go.RowKit
set_option linter.unusedVariables false

theorem Blk.cur {w : World} {b : Nat} {s : ByteArray} {k : Nat} {br : Bool} (h : Cur w b s k br) (o : Obj) : Cur (w.alloc o) b s k br := Blk.alloc h o
theorem num_le_1 (s : ByteArray) (k : Nat) : num s k 1 ≤ 255 := by have := num_lt s k 1; omega

set_option maxHeartbeats 1000000 in
theorem read8_t (b : Nat) (s : ByteArray) (k g m : Nat) (w : World) (hs : s.size ≤ 9223372036854775807) (hk : k + m ≤ s.size) (hm : m ≤ 1) (h : Cur w b s k false) (hg : Blk w g 3 #[.int .i64 (m : Int)]) :
    Calls Try.prog 60 #[.pointer (some ⟨b, 0, none⟩), enough g] w fun e w' => e = .returned (.int .u8 (num s k m)) ∧ Moved w w' b s (k + m) false := by
  have H := Lib.hid h
  have G := Lib.hid hg
  have hbg : g ≠ b := Blk.ne_ hg h (by decide)
  clear h hg
  go_enter Try.func60, Try.ntmps60
  go_wp2_with (go_at_call 69; (with_reducible refine (has_t b s k g m _ hs (by omega) (by omega) (by omega) H.out G.out).mono ?_); rintro e w1 ⟨rfl, M1⟩)
  have HM1 := Lib.hid M1
  clear M1
  go_loopw [5, 6] (fun x i wr => ∃ j : Nat, j ≤ m ∧ i = .int .i64 (j : Int) ∧ x = .int .u64 (num s k j : Int) ∧ Moved w wr b s (k + j) false) (fun _ i _ => m - (intOf i).toNat)
  case atStart => exact ⟨0, Nat.zero_le _, rfl, rfl, HM1.out⟩
  case round =>
    obtain ⟨j, hj, rfl, rfl, Mj⟩ := hrel
    have G' : Blk wr g 3 #[.int .i64 (m : Int)] := Blk.grown G.out Mj.1 (by simpa using hbg)
    have GG := Lib.hid G'
    clear G'
    by_cases hlt : j < m
    · obtain ⟨p, hp⟩ : ∃ p, p = k + j := ⟨_, rfl⟩
      rw [← hp] at Mj
      have c0 := Mj.2.c0
      have c1 := Mj.2.c1
      have f1 := Mj.2.fz 1
      have hps : p < s.size := by omega
      have nb := num_le7 s k j (by omega)
      have HP := Lib.hid hp
      have MJ := Lib.hid Mj
      clear hp Mj
      go_wp2_with (go_at_call 66; (with_reducible refine (enough_f g m _ (by omega) _ GG.out).mono ?_); rintro e w' ⟨rfl, rfl⟩)
      go_quiet (fail)
      go_wp2
      go_roundw
      case rel => exact ⟨j + 1, by omega, by go_num, val_int (num_round s k j p HP.out hps nb), only_setCell (only_drewN MJ.out.1 _) rfl _, by have e := HP.out; have c := Cur.setAt (Blk.drewN MJ.out.2 nq) (p + 1); rw [show k + (j + 1) = p + 1 by omega]; exact c⟩
      case measure => simp [intOf]; omega
    · obtain rfl : m = j := by omega
      go_wp2_with (go_at_call 66; (with_reducible refine (enough_t g m _ (by omega) (by omega) _ GG.out).mono ?_); rintro e w' ⟨rfl, rfl⟩)
      go_ret; exact ⟨ret_int (num_keep s k m 1 256 hm rfl), Mj⟩

theorem read8_f (b : Nat) (s : ByteArray) (k g m : Nat) (w : World) (hs : s.size ≤ 9223372036854775807) (hk : k ≤ s.size) (hm : s.size < k + m) (h : Cur w b s k false) (hg : Blk w g 3 #[.int .i64 (m : Int)]) :
    Calls Try.prog 60 #[.pointer (some ⟨b, 0, none⟩), enough g] w fun e w' => e = .returned (.int .u8 0) ∧ Moved w w' b s k true := by
  have H := Lib.hid h
  have G := Lib.hid hg
  clear h hg
  go_enter Try.func60, Try.ntmps60
  go_wp2_with (go_at_call 69; (with_reducible refine (has_f b s k g m _ hs (by omega) (by omega) H.out G.out).mono ?_); rintro e w1 ⟨rfl, M1⟩)
  go_ret; exact ⟨rfl, M1⟩
theorem read8_br (b : Nat) (s : ByteArray) (k g : Nat) (w : World) (h : Cur w b s k true) :
    Calls Try.prog 60 #[.pointer (some ⟨b, 0, none⟩), enough g] w fun e w' => e = .returned (.int .u8 0) ∧ w = w' := by
  have H := Lib.hid h
  clear h
  go_enter Try.func60, Try.ntmps60
  go_wp2_with (go_at_call 69; (with_reducible refine (has_br b s k g _ H.out).mono ?_); rintro e w1 ⟨rfl, rfl⟩)
  go_ret; exact ⟨rfl, rfl⟩
theorem read8_nil (g : Nat) (w : World) :
    Calls Try.prog 60 #[.pointer none, enough g] w fun e w' => e = .returned (.int .u8 0) ∧ w = w' := by
  go_enter Try.func60, Try.ntmps60
  go_wp2_with (go_at_call 69; (with_reducible refine (has_nil g _).mono ?_); rintro e w1 ⟨rfl, rfl⟩)
  go_ret; exact ⟨rfl, rfl⟩

theorem U8_t (b : Nat) (s : ByteArray) (k : Nat) (w : World) (hs : s.size ≤ 9223372036854775807) (hk : k + 1 ≤ s.size) (h : Cur w b s k false) :
    Calls Try.prog 41 #[.pointer (some ⟨b, 0, none⟩)] w fun e w' => e = .returned (.int .u8 (num s k 1)) ∧ Moved w w' b s (k + 1) false := by
  have H := Lib.hid h
  have bn : Blk (w.alloc (.cells #[.int .i64 1] 3)) w.heap.size 3 #[.int .i64 ((1 : Nat) : Int)] := Blk.new _ _ _
  have BN := Lib.hid bn
  clear h bn
  go_enter Try.func41, Try.ntmps41
  go_wp2_with (first
    | (go_at_call 49; (with_reducible refine (enoughFor_any 1 _).mono ?_); rintro e w' ⟨rfl, rfl⟩)
    | (go_at_call 60; (with_reducible refine (read8_t b s k w.heap.size 1 _ hs hk (Nat.le_refl _) (Blk.cur H.out _) BN.out).mono ?_); rintro e w1 ⟨rfl, M1⟩))
  go_ret; exact ⟨rfl, Moved.after (World.grownBy_alloc _ _ _) M1⟩
theorem U8_f (b : Nat) (s : ByteArray) (k : Nat) (w : World) (hs : s.size ≤ 9223372036854775807) (hk : k ≤ s.size) (hm : s.size < k + 1) (h : Cur w b s k false) :
    Calls Try.prog 41 #[.pointer (some ⟨b, 0, none⟩)] w fun e w' => e = .returned (.int .u8 0) ∧ Moved w w' b s k true := by
  have H := Lib.hid h
  have bn : Blk (w.alloc (.cells #[.int .i64 1] 3)) w.heap.size 3 #[.int .i64 ((1 : Nat) : Int)] := Blk.new _ _ _
  have BN := Lib.hid bn
  clear h bn
  go_enter Try.func41, Try.ntmps41
  go_wp2_with (first
    | (go_at_call 49; (with_reducible refine (enoughFor_any 1 _).mono ?_); rintro e w' ⟨rfl, rfl⟩)
    | (go_at_call 60; (with_reducible refine (read8_f b s k w.heap.size 1 _ hs hk hm (Blk.cur H.out _) BN.out).mono ?_); rintro e w1 ⟨rfl, M1⟩))
  go_ret; exact ⟨rfl, Moved.after (World.grownBy_alloc _ _ _) M1⟩
theorem U8_br (b : Nat) (s : ByteArray) (k : Nat) (w : World) (h : Cur w b s k true) :
    Calls Try.prog 41 #[.pointer (some ⟨b, 0, none⟩)] w fun e w' => e = .returned (.int .u8 0) ∧ Moved w w' b s k true := by
  have H := Lib.hid h
  have bn : Blk (w.alloc (.cells #[.int .i64 1] 3)) w.heap.size 3 #[.int .i64 ((1 : Nat) : Int)] := Blk.new _ _ _
  have BN := Lib.hid bn
  clear h bn
  go_enter Try.func41, Try.ntmps41
  go_wp2_with (first
    | (go_at_call 49; (with_reducible refine (enoughFor_any 1 _).mono ?_); rintro e w' ⟨rfl, rfl⟩)
    | (go_at_call 60; (with_reducible refine (read8_br b s k w.heap.size _ (Blk.cur H.out _)).mono ?_); rintro e w1 ⟨rfl, rfl⟩))
  go_ret; exact ⟨rfl, World.grownBy_alloc _ _ _, Blk.cur H.out _⟩
theorem U8_nil (w : World) :
    Calls Try.prog 41 #[.pointer none] w fun e w' => e = .returned (.int .u8 0) ∧ Below w.heap.size w w' := by
  go_enter Try.func41, Try.ntmps41
  go_wp2_with (first
    | (go_at_call 49; (with_reducible refine (enoughFor_any 1 _).mono ?_); rintro e w' ⟨rfl, rfl⟩)
    | (go_at_call 60; (with_reducible refine (read8_nil w.heap.size _).mono ?_); rintro e w1 ⟨rfl, rfl⟩))
  go_ret; exact ⟨rfl, (Below.refl _ _).alloc (Nat.le_refl _) _⟩
theorem num_le_2 (s : ByteArray) (k : Nat) : num s k 2 ≤ 65535 := by have := num_lt s k 2; omega



theorem num_le_4 (s : ByteArray) (k : Nat) : num s k 4 ≤ 4294967295 := by have := num_lt s k 4; omega




set_option maxHeartbeats 1000000 in
theorem read64_t (b : Nat) (s : ByteArray) (k g m : Nat) (w : World) (hs : s.size ≤ 9223372036854775807) (hk : k + m ≤ s.size) (hm : m ≤ 8) (h : Cur w b s k false) (hg : Blk w g 3 #[.int .i64 (m : Int)]) :
    Calls Try.prog 68 #[.pointer (some ⟨b, 0, none⟩), enough g] w fun e w' => e = .returned (.int .u64 (num s k m)) ∧ Moved w w' b s (k + m) false := by
  have H := Lib.hid h
  have G := Lib.hid hg
  have hbg : g ≠ b := Blk.ne_ hg h (by decide)
  clear h hg
  go_enter Try.func68, Try.ntmps68
  go_wp2_with (go_at_call 69; (with_reducible refine (has_t b s k g m _ hs (by omega) (by omega) (by omega) H.out G.out).mono ?_); rintro e w1 ⟨rfl, M1⟩)
  have HM1 := Lib.hid M1
  clear M1
  go_loopw [5, 6] (fun x i wr => ∃ j : Nat, j ≤ m ∧ i = .int .i64 (j : Int) ∧ x = .int .u64 (num s k j : Int) ∧ Moved w wr b s (k + j) false) (fun _ i _ => m - (intOf i).toNat)
  case atStart => exact ⟨0, Nat.zero_le _, rfl, rfl, HM1.out⟩
  case round =>
    obtain ⟨j, hj, rfl, rfl, Mj⟩ := hrel
    have G' : Blk wr g 3 #[.int .i64 (m : Int)] := Blk.grown G.out Mj.1 (by simpa using hbg)
    have GG := Lib.hid G'
    clear G'
    by_cases hlt : j < m
    · obtain ⟨p, hp⟩ : ∃ p, p = k + j := ⟨_, rfl⟩
      rw [← hp] at Mj
      have c0 := Mj.2.c0
      have c1 := Mj.2.c1
      have f1 := Mj.2.fz 1
      have hps : p < s.size := by omega
      have nb := num_le7 s k j (by omega)
      have HP := Lib.hid hp
      have MJ := Lib.hid Mj
      clear hp Mj
      go_wp2_with (go_at_call 66; (with_reducible refine (enough_f g m _ (by omega) _ GG.out).mono ?_); rintro e w' ⟨rfl, rfl⟩)
      go_quiet (fail)
      go_wp2
      go_roundw
      case rel => exact ⟨j + 1, by omega, by go_num, val_int (num_round s k j p HP.out hps nb), only_setCell (only_drewN MJ.out.1 _) rfl _, by have e := HP.out; have c := Cur.setAt (Blk.drewN MJ.out.2 nq) (p + 1); rw [show k + (j + 1) = p + 1 by omega]; exact c⟩
      case measure => simp [intOf]; omega
    · obtain rfl : m = j := by omega
      go_wp2_with (go_at_call 66; (with_reducible refine (enough_t g m _ (by omega) (by omega) _ GG.out).mono ?_); rintro e w' ⟨rfl, rfl⟩)
      go_ret; exact ⟨rfl, Mj⟩

theorem read64_f (b : Nat) (s : ByteArray) (k g m : Nat) (w : World) (hs : s.size ≤ 9223372036854775807) (hk : k ≤ s.size) (hm : s.size < k + m) (h : Cur w b s k false) (hg : Blk w g 3 #[.int .i64 (m : Int)]) :
    Calls Try.prog 68 #[.pointer (some ⟨b, 0, none⟩), enough g] w fun e w' => e = .returned (.int .u64 0) ∧ Moved w w' b s k true := by
  have H := Lib.hid h
  have G := Lib.hid hg
  clear h hg
  go_enter Try.func68, Try.ntmps68
  go_wp2_with (go_at_call 69; (with_reducible refine (has_f b s k g m _ hs (by omega) (by omega) H.out G.out).mono ?_); rintro e w1 ⟨rfl, M1⟩)
  go_ret; exact ⟨rfl, M1⟩
theorem read64_br (b : Nat) (s : ByteArray) (k g : Nat) (w : World) (h : Cur w b s k true) :
    Calls Try.prog 68 #[.pointer (some ⟨b, 0, none⟩), enough g] w fun e w' => e = .returned (.int .u64 0) ∧ w = w' := by
  have H := Lib.hid h
  clear h
  go_enter Try.func68, Try.ntmps68
  go_wp2_with (go_at_call 69; (with_reducible refine (has_br b s k g _ H.out).mono ?_); rintro e w1 ⟨rfl, rfl⟩)
  go_ret; exact ⟨rfl, rfl⟩
theorem read64_nil (g : Nat) (w : World) :
    Calls Try.prog 68 #[.pointer none, enough g] w fun e w' => e = .returned (.int .u64 0) ∧ w = w' := by
  go_enter Try.func68, Try.ntmps68
  go_wp2_with (go_at_call 69; (with_reducible refine (has_nil g _).mono ?_); rintro e w1 ⟨rfl, rfl⟩)
  go_ret; exact ⟨rfl, rfl⟩

theorem U64_t (b : Nat) (s : ByteArray) (k : Nat) (w : World) (hs : s.size ≤ 9223372036854775807) (hk : k + 8 ≤ s.size) (h : Cur w b s k false) :
    Calls Try.prog 57 #[.pointer (some ⟨b, 0, none⟩)] w fun e w' => e = .returned (.int .u64 (num s k 8)) ∧ Moved w w' b s (k + 8) false := by
  have H := Lib.hid h
  have bn : Blk (w.alloc (.cells #[.int .i64 8] 3)) w.heap.size 3 #[.int .i64 ((8 : Nat) : Int)] := Blk.new _ _ _
  have BN := Lib.hid bn
  clear h bn
  go_enter Try.func57, Try.ntmps57
  go_wp2_with (first
    | (go_at_call 49; (with_reducible refine (enoughFor_any 8 _).mono ?_); rintro e w' ⟨rfl, rfl⟩)
    | (go_at_call 68; (with_reducible refine (read64_t b s k w.heap.size 8 _ hs hk (Nat.le_refl _) (Blk.cur H.out _) BN.out).mono ?_); rintro e w1 ⟨rfl, M1⟩))
  go_ret; exact ⟨rfl, Moved.after (World.grownBy_alloc _ _ _) M1⟩
theorem U64_f (b : Nat) (s : ByteArray) (k : Nat) (w : World) (hs : s.size ≤ 9223372036854775807) (hk : k ≤ s.size) (hm : s.size < k + 8) (h : Cur w b s k false) :
    Calls Try.prog 57 #[.pointer (some ⟨b, 0, none⟩)] w fun e w' => e = .returned (.int .u64 0) ∧ Moved w w' b s k true := by
  have H := Lib.hid h
  have bn : Blk (w.alloc (.cells #[.int .i64 8] 3)) w.heap.size 3 #[.int .i64 ((8 : Nat) : Int)] := Blk.new _ _ _
  have BN := Lib.hid bn
  clear h bn
  go_enter Try.func57, Try.ntmps57
  go_wp2_with (first
    | (go_at_call 49; (with_reducible refine (enoughFor_any 8 _).mono ?_); rintro e w' ⟨rfl, rfl⟩)
    | (go_at_call 68; (with_reducible refine (read64_f b s k w.heap.size 8 _ hs hk hm (Blk.cur H.out _) BN.out).mono ?_); rintro e w1 ⟨rfl, M1⟩))
  go_ret; exact ⟨rfl, Moved.after (World.grownBy_alloc _ _ _) M1⟩
theorem U64_br (b : Nat) (s : ByteArray) (k : Nat) (w : World) (h : Cur w b s k true) :
    Calls Try.prog 57 #[.pointer (some ⟨b, 0, none⟩)] w fun e w' => e = .returned (.int .u64 0) ∧ Moved w w' b s k true := by
  have H := Lib.hid h
  have bn : Blk (w.alloc (.cells #[.int .i64 8] 3)) w.heap.size 3 #[.int .i64 ((8 : Nat) : Int)] := Blk.new _ _ _
  have BN := Lib.hid bn
  clear h bn
  go_enter Try.func57, Try.ntmps57
  go_wp2_with (first
    | (go_at_call 49; (with_reducible refine (enoughFor_any 8 _).mono ?_); rintro e w' ⟨rfl, rfl⟩)
    | (go_at_call 68; (with_reducible refine (read64_br b s k w.heap.size _ (Blk.cur H.out _)).mono ?_); rintro e w1 ⟨rfl, rfl⟩))
  go_ret; exact ⟨rfl, World.grownBy_alloc _ _ _, Blk.cur H.out _⟩
theorem U64_nil (w : World) :
    Calls Try.prog 57 #[.pointer none] w fun e w' => e = .returned (.int .u64 0) ∧ Below w.heap.size w w' := by
  go_enter Try.func57, Try.ntmps57
  go_wp2_with (first
    | (go_at_call 49; (with_reducible refine (enoughFor_any 8 _).mono ?_); rintro e w' ⟨rfl, rfl⟩)
    | (go_at_call 68; (with_reducible refine (read64_nil w.heap.size _).mono ?_); rintro e w1 ⟨rfl, rfl⟩))
  go_ret; exact ⟨rfl, (Below.refl _ _).alloc (Nat.le_refl _) _⟩

end Go.Proofs.Ytbimdlcgjpeheaa
