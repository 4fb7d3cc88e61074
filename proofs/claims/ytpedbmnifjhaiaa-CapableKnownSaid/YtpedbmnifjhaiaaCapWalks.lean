/-
  What the small functions of package capable answer, each by its walk: fits, flagsOf, put, widthsOf, formOf.
-/
import Derived.Test.YtpedbmnifjhaiaaCapPlain
import Derived.Test.YtpedbmnifjhaiaaCurAny
import Derived.Test.YtpedbmnifjhaiaaCurPuts
import Derived.Laws.Tables
import Derived.Laws.Rows
import Derived.Laws.CopyOwn
import Derived.Deep.RegionHeld3
namespace Go.Proofs.Ytpedbmnifjhaiaa
open Go.ChangeShapes Go.WideShapes Go.ChangeAt Go.RowKit
set_option linter.unusedVariables false

/-- An option's struct, as cells. -/
abbrev capv (x : Cap) : Array Value := #[.int .i64 x.form, .int .i64 x.ver, .bool x.sums, .bool x.alone, .int .u64 (x.own : Int), .int .u64 (x.peer : Int), .int .i64 x.len, .int .u16 (x.sum : Int)]
theorem cap_size : (Try.prog.info? 25).map (·.size) = some 8 := by kernel_rfl
theorem cap_one (x : Cap) : (capv x).all (·.oneCell') = true := by simp [Value.oneCell']

theorem fits_any (n k : Nat) (hn : n ≤ 18446744073709551615) (hk : k ≤ 64) (w : World) :
    Calls Try.prog 33 #[.int .u64 (n : Int), .int .i64 (k : Int)] w fun e w' => e = .returned (.bool (decide (n / 2 ^ k = 0))) ∧ w = w' := by
  go_enter Try.func33, Try.ntmps33
  go_wp2
  go_ret
  refine ⟨ret_bool ?_, rfl⟩
  have e : ((n : Int) / 2 ^ k) = ((n / 2 ^ k : Nat) : Int) := by norm_cast
  rw [e]
  by_cases h : n / 2 ^ k = 0
  · rw [h]; rfl
  · rw [decide_eq_false h, beq_eq_false_iff_ne]; omega

theorem fits_at (n k : Nat) (b : Bool) (hn : n ≤ 18446744073709551615) (hk : k ≤ 64) (hb : decide (n / 2 ^ k = 0) = b) (N K : Int) (hN : N = (n : Int)) (hK : K = (k : Int)) (w : World) :
    Calls Try.prog 33 #[.int .u64 N, .int .i64 K] w fun e w' => e = .returned (.bool b) ∧ w = w' := by subst hN hK hb; exact fits_any n k hn hk w

theorem flagsOf_any (x : Cap) (w : World) :
    Calls Try.prog 20 #[.agg (capv x)] w fun e w' => e = .returned (.int .u64 (x.flags : Int)) ∧ Below w.heap.size w w' := by
  obtain ⟨form, ver, sums, alone, own, peer, len, sum⟩ := x
  cases sums <;> cases alone
  all_goals
    go_enter Try.func20, Try.ntmps20
    go_wp2
    go_ret; exact ⟨ret_int (by simp [Cap.flags]; try decide), (Below.refl _ _).alloc (Nat.le_refl _) _⟩
theorem put_0 (s : ByteArray) (n : Nat) (w : World) :
    Calls Try.prog 19 #[.string s, .int .i64 0, .int .u64 (n : Int)] w fun e w' => e = .returned (.string s) ∧ Below w.heap.size w w' := by
  go_enter Try.func19, Try.ntmps19
  go_wp2
  go_ret; exact ⟨rfl, Below.refl _ _⟩
theorem put_1 (s : ByteArray) (n : Nat) (w : World) (hs : s.size ≤ 9223372036854775000) (hn : n ≤ 255) :
    Calls Try.prog 19 #[.string s, .int .i64 1, .int .u64 (n : Int)] w fun e w' => e = .returned (.string (s ++ txt (be 1 n))) ∧ Below w.heap.size w w' := by
  have e : (n : Int) % 256 = (n : Int) := by omega
  go_enter Try.func19, Try.ntmps19
  go_wp2_with fail
  try rw [e]
  refine (Put8_any s n w hs hn).mono ?_
  rintro e w' ⟨rfl, b⟩
  go_wp2
  go_ret; exact ⟨rfl, b⟩
theorem put_2 (s : ByteArray) (n : Nat) (w : World) (hs : s.size ≤ 9223372036854775000) (hn : n ≤ 65535) :
    Calls Try.prog 19 #[.string s, .int .i64 2, .int .u64 (n : Int)] w fun e w' => e = .returned (.string (s ++ txt (be 2 n))) ∧ Below w.heap.size w w' := by
  have e : IntKind.u16.wrap (n : Int) = (n : Int) := by rw [IntKind.wrap_u16]; omega
  go_enter Try.func19, Try.ntmps19
  go_wp2_with fail
  try rw [e]
  refine (Put16_any s n w hs hn).mono ?_
  rintro e w' ⟨rfl, b⟩
  go_wp2
  go_ret; exact ⟨rfl, b⟩
theorem put_8 (s : ByteArray) (n : Nat) (w : World) (hs : s.size ≤ 9223372036854775000) (hn : n ≤ 18446744073709551615) :
    Calls Try.prog 19 #[.string s, .int .i64 8, .int .u64 (n : Int)] w fun e w' => e = .returned (.string (s ++ txt (be 8 n))) ∧ Below w.heap.size w w' := by
  go_enter Try.func19, Try.ntmps19
  go_wp2_with fail
  refine (Put64_any s n w hs hn).mono ?_
  rintro e w' ⟨rfl, b⟩
  go_wp2
  go_ret; exact ⟨rfl, b⟩
/-- What put answers, whichever of the widths. -/
theorem put_any (s : ByteArray) (m n : Nat) (w : World) (hs : s.size ≤ 9223372036854775000) (hm : m = 0 ∨ m = 1 ∨ m = 2 ∨ m = 8) (hn : n < 256 ^ m) (t : ByteArray) (ht : s ++ txt (be m n) = t) :
    Calls Try.prog 19 #[.string s, .int .i64 (m : Int), .int .u64 (n : Int)] w fun e w' => e = .returned (.string t) ∧ Below w.heap.size w w' := by
  subst ht
  rcases hm with rfl | rfl | rfl | rfl
  · have := put_0 s n w
    rwa [show be 0 n = [] from rfl, txt_nil]
  · exact put_1 s n w hs (by omega)
  · exact put_2 s n w hs (by omega)
  · exact put_8 s n w hs (by omega)

/-- How many bytes a form's fields have. -/
def wOwn (f : Int) : Nat := if 1 ≤ f ∧ f ≤ 4 then 8 else 0
def wPeer (f : Int) : Nat := if 2 ≤ f ∧ f ≤ 4 then 8 else 0
def wLen (f : Int) : Nat := if 3 ≤ f ∧ f ≤ 4 then 2 else 0
def wSum (f : Int) : Nat := if f = 4 then 2 else 0
theorem c_own (f : Int) : wOwn f = 0 ∨ wOwn f = 1 ∨ wOwn f = 2 ∨ wOwn f = 8 := by unfold wOwn; split <;> omega
theorem c_peer (f : Int) : wPeer f = 0 ∨ wPeer f = 1 ∨ wPeer f = 2 ∨ wPeer f = 8 := by unfold wPeer; split <;> omega
theorem c_len (f : Int) : wLen f = 0 ∨ wLen f = 1 ∨ wLen f = 2 ∨ wLen f = 8 := by unfold wLen; split <;> omega
theorem c_sum (f : Int) : wSum f = 0 ∨ wSum f = 1 ∨ wSum f = 2 ∨ wSum f = 8 := by unfold wSum; split <;> omega
abbrev widv (f : Int) : Array Value := #[.int .i64 (wOwn f : Int), .int .i64 (wPeer f : Int), .int .i64 (wLen f : Int), .int .i64 (wSum f : Int)]
theorem wid_size : (Try.prog.info? 47).map (·.size) = some 4 := by kernel_rfl
theorem wid_one (f : Int) : (widv f).all (·.oneCell') = true := by simp [Value.oneCell']

theorem widths_end (f : Int) (w : World) (b : Bool) (tmps : Array Value) (W : World) (hW : W = (w.alloc (.cells (widv f) 47)).alloc (.cells (widv f) 47)) (ht : tmps.getD 2 undef = .pointer (some ⟨w.heap.size, 0, none⟩)) :
    (results Try.f18 tmps).run Try.prog W = .ok (.agg (widv f)) W := by
  subst hW
  exact results_cell_row rfl _ _ w.heap.size 47 (widv f) (0, 0) _ ht ((Blk.new w 47 (widv f)).alloc _) Try.underlying47 rfl wid_size
set_option maxRecDepth 100000 in
theorem widthsOf_any (f : Int) (w : World) :
    Calls Try.prog 18 #[.int .i64 f] w fun e w' => e = .returned (.agg (widv f)) ∧ Below w.heap.size w w' := by
  have hb : Below w.heap.size w ((w.alloc (.cells (widv f) 47)).alloc (.cells (widv f) 47)) := ((Below.refl _ w).alloc (Nat.le_refl _) _).alloc (by simp) _
  have HB := Lib.hid hb
  clear hb
  have cs : f = 4 ∨ f = 3 ∨ f = 2 ∨ f = 1 ∨ (¬ f = 4 ∧ ¬ f = 3 ∧ ¬ f = 2 ∧ ¬ f = 1) := by omega
  rcases cs with rfl | rfl | rfl | rfl | ⟨n4, n3, n2, n1⟩
  · go_enter Try.func18, Try.ntmps18
    go_wp2_with fail
    exact bodyPost_ret (widths_end 4 w true _ _ rfl rfl) rfl ⟨rfl, HB.out⟩
  · go_enter Try.func18, Try.ntmps18
    go_wp2_with fail
    exact bodyPost_ret (widths_end 3 w true _ _ rfl rfl) rfl ⟨rfl, HB.out⟩
  · go_enter Try.func18, Try.ntmps18
    go_wp2_with fail
    exact bodyPost_ret (widths_end 2 w true _ _ rfl rfl) rfl ⟨rfl, HB.out⟩
  · go_enter Try.func18, Try.ntmps18
    go_wp2_with fail
    exact bodyPost_ret (widths_end 1 w true _ _ rfl rfl) rfl ⟨rfl, HB.out⟩
  · have z1 : wOwn f = 0 := by unfold wOwn; rw [if_neg (by omega)]
    have z2 : wPeer f = 0 := by unfold wPeer; rw [if_neg (by omega)]
    have z3 : wLen f = 0 := by unfold wLen; rw [if_neg (by omega)]
    have z4 : wSum f = 0 := by unfold wSum; rw [if_neg (by omega)]
    have hv : widv f = #[.int .i64 0, .int .i64 0, .int .i64 0, .int .i64 0] := by simp [z1, z2, z3, z4]
    have HV := Lib.hid hv
    clear hv z1 z2 z3 z4
    go_enter Try.func18, Try.ntmps18
    go_wp2_with fail
    exact bodyPost_ret (widths_end f w true _ _ (by rw [HV.out]) rfl) rfl ⟨rfl, by have := HB.out; rwa [HV.out] at this⟩

theorem widthsOf_at (f : Int) (cs : Array Value) (hcs : widv f = cs) (w : World) :
    Calls Try.prog 18 #[.int .i64 f] w fun e w' => e = .returned (.agg cs) ∧ Below w.heap.size w w' := by subst hcs; exact widthsOf_any f w
/-- Which form's bodies are so long. -/
def formV (n : Nat) : Value := match formOf n with | some f => .tuple #[.int .i64 (f : Int), .bool true] | none => .tuple #[.int .i64 0, .bool false]
set_option maxHeartbeats 1000000 in
set_option maxRecDepth 100000 in
theorem formOf_any (n : Nat) (hn : n ≤ 9223372036854775807) (w : World) :
    Calls Try.prog 25 #[.int .i64 (n : Int)] w fun e w' => e = .returned (formV n) ∧ Below w.heap.size w w' := by
  go_enter Try.func25, Try.ntmps25
  go_wp2_with fail
  go_loopw [6] (fun i wr => ∃ j : Nat, j ≤ 5 ∧ i = .int .i64 (j : Int) ∧ (∀ k : Nat, k < j → n ≠ Cap.size (k : Int)) ∧ Below w.heap.size w wr) (fun i _ => (5 - intOf i).toNat)
  case atStart => exact ⟨0, by omega, rfl, fun k hk => by omega, Below.refl _ _⟩
  case round =>
    obtain ⟨j, hj, rfl, hN, hB⟩ := hrel
    have HB := Lib.hid hB
    have HN := Lib.hid hN
    clear hB hN
    have cases6 : j = 0 ∨ j = 1 ∨ j = 2 ∨ j = 3 ∨ j = 4 ∨ j = 5 := by omega
    clear hj
    rcases cases6 with rfl | rfl | rfl | rfl | rfl | rfl
    · by_cases hs : n = 2
      · have e0 : ((2 : Int) == (n : Int)) = true := by rw [hs]; rfl
        have HS := Lib.hid hs
        clear hs
        go_wp2_with fail
        refine (widthsOf_at 0 #[.int .i64 0, .int .i64 0, .int .i64 0, .int .i64 0] rfl wr).mono ?_
        rintro e W ⟨rfl, b⟩
        have HBW := Lib.hid (HB.out.trans (b.mono HB.out.size))
        clear b
        go_wp2_with (refine wpList_store_row rfl 47 _ _ rfl W.heap.size #[.int .i64 0, .int .i64 0, .int .i64 0, .int .i64 0] rfl rfl 47 #[.int .i64 0, .int .i64 0, .int .i64 0, .int .i64 0] ?_ wid_size rfl (by simp [Value.oneCell']) ?_; exact heap_alloc_new W _; rw [World.setRow_alloc_new])
        go_ret2
        exact ⟨by rw [HS.out]; rfl, HBW.out.alloc HBW.out.size _⟩
      · have e0 : ((2 : Int) == (n : Int)) = false := by rw [beq_eq_false_iff_ne]; omega
        have HS := Lib.hid hs
        clear hs
        go_wp2_with fail
        refine (widthsOf_at 0 #[.int .i64 0, .int .i64 0, .int .i64 0, .int .i64 0] rfl wr).mono ?_
        rintro e W ⟨rfl, b⟩
        have HBW := Lib.hid (HB.out.trans (b.mono HB.out.size))
        clear b
        go_wp2_with (refine wpList_store_row rfl 47 _ _ rfl W.heap.size #[.int .i64 0, .int .i64 0, .int .i64 0, .int .i64 0] rfl rfl 47 #[.int .i64 0, .int .i64 0, .int .i64 0, .int .i64 0] ?_ wid_size rfl (by simp [Value.oneCell']) ?_; exact heap_alloc_new W _; rw [World.setRow_alloc_new])
        go_roundw
        case rel => exact ⟨1, by omega, by go_num, fun k hk => by rcases (show k < 0 ∨ k = 0 by omega) with h | h; exact HN.out k h; subst h; exact fun e => HS.out e, HBW.out.alloc HBW.out.size _⟩
        case measure => simp [intOf]
    · by_cases hs : n = 10
      · have e0 : ((10 : Int) == (n : Int)) = true := by rw [hs]; rfl
        have HS := Lib.hid hs
        clear hs
        go_wp2_with fail
        refine (widthsOf_at 1 #[.int .i64 8, .int .i64 0, .int .i64 0, .int .i64 0] rfl wr).mono ?_
        rintro e W ⟨rfl, b⟩
        have HBW := Lib.hid (HB.out.trans (b.mono HB.out.size))
        clear b
        go_wp2_with (refine wpList_store_row rfl 47 _ _ rfl W.heap.size #[.int .i64 8, .int .i64 0, .int .i64 0, .int .i64 0] rfl rfl 47 #[.int .i64 0, .int .i64 0, .int .i64 0, .int .i64 0] ?_ wid_size rfl (by simp [Value.oneCell']) ?_; exact heap_alloc_new W _; rw [World.setRow_alloc_new])
        go_ret2
        exact ⟨by rw [HS.out]; rfl, HBW.out.alloc HBW.out.size _⟩
      · have e0 : ((10 : Int) == (n : Int)) = false := by rw [beq_eq_false_iff_ne]; omega
        have HS := Lib.hid hs
        clear hs
        go_wp2_with fail
        refine (widthsOf_at 1 #[.int .i64 8, .int .i64 0, .int .i64 0, .int .i64 0] rfl wr).mono ?_
        rintro e W ⟨rfl, b⟩
        have HBW := Lib.hid (HB.out.trans (b.mono HB.out.size))
        clear b
        go_wp2_with (refine wpList_store_row rfl 47 _ _ rfl W.heap.size #[.int .i64 8, .int .i64 0, .int .i64 0, .int .i64 0] rfl rfl 47 #[.int .i64 0, .int .i64 0, .int .i64 0, .int .i64 0] ?_ wid_size rfl (by simp [Value.oneCell']) ?_; exact heap_alloc_new W _; rw [World.setRow_alloc_new])
        go_roundw
        case rel => exact ⟨2, by omega, by go_num, fun k hk => by rcases (show k < 1 ∨ k = 1 by omega) with h | h; exact HN.out k h; subst h; exact fun e => HS.out e, HBW.out.alloc HBW.out.size _⟩
        case measure => simp [intOf]
    · by_cases hs : n = 18
      · have e0 : ((18 : Int) == (n : Int)) = true := by rw [hs]; rfl
        have HS := Lib.hid hs
        clear hs
        go_wp2_with fail
        refine (widthsOf_at 2 #[.int .i64 8, .int .i64 8, .int .i64 0, .int .i64 0] rfl wr).mono ?_
        rintro e W ⟨rfl, b⟩
        have HBW := Lib.hid (HB.out.trans (b.mono HB.out.size))
        clear b
        go_wp2_with (refine wpList_store_row rfl 47 _ _ rfl W.heap.size #[.int .i64 8, .int .i64 8, .int .i64 0, .int .i64 0] rfl rfl 47 #[.int .i64 0, .int .i64 0, .int .i64 0, .int .i64 0] ?_ wid_size rfl (by simp [Value.oneCell']) ?_; exact heap_alloc_new W _; rw [World.setRow_alloc_new])
        go_ret2
        exact ⟨by rw [HS.out]; rfl, HBW.out.alloc HBW.out.size _⟩
      · have e0 : ((18 : Int) == (n : Int)) = false := by rw [beq_eq_false_iff_ne]; omega
        have HS := Lib.hid hs
        clear hs
        go_wp2_with fail
        refine (widthsOf_at 2 #[.int .i64 8, .int .i64 8, .int .i64 0, .int .i64 0] rfl wr).mono ?_
        rintro e W ⟨rfl, b⟩
        have HBW := Lib.hid (HB.out.trans (b.mono HB.out.size))
        clear b
        go_wp2_with (refine wpList_store_row rfl 47 _ _ rfl W.heap.size #[.int .i64 8, .int .i64 8, .int .i64 0, .int .i64 0] rfl rfl 47 #[.int .i64 0, .int .i64 0, .int .i64 0, .int .i64 0] ?_ wid_size rfl (by simp [Value.oneCell']) ?_; exact heap_alloc_new W _; rw [World.setRow_alloc_new])
        go_roundw
        case rel => exact ⟨3, by omega, by go_num, fun k hk => by rcases (show k < 2 ∨ k = 2 by omega) with h | h; exact HN.out k h; subst h; exact fun e => HS.out e, HBW.out.alloc HBW.out.size _⟩
        case measure => simp [intOf]
    · by_cases hs : n = 20
      · have e0 : ((20 : Int) == (n : Int)) = true := by rw [hs]; rfl
        have HS := Lib.hid hs
        clear hs
        go_wp2_with fail
        refine (widthsOf_at 3 #[.int .i64 8, .int .i64 8, .int .i64 2, .int .i64 0] rfl wr).mono ?_
        rintro e W ⟨rfl, b⟩
        have HBW := Lib.hid (HB.out.trans (b.mono HB.out.size))
        clear b
        go_wp2_with (refine wpList_store_row rfl 47 _ _ rfl W.heap.size #[.int .i64 8, .int .i64 8, .int .i64 2, .int .i64 0] rfl rfl 47 #[.int .i64 0, .int .i64 0, .int .i64 0, .int .i64 0] ?_ wid_size rfl (by simp [Value.oneCell']) ?_; exact heap_alloc_new W _; rw [World.setRow_alloc_new])
        go_ret2
        exact ⟨by rw [HS.out]; rfl, HBW.out.alloc HBW.out.size _⟩
      · have e0 : ((20 : Int) == (n : Int)) = false := by rw [beq_eq_false_iff_ne]; omega
        have HS := Lib.hid hs
        clear hs
        go_wp2_with fail
        refine (widthsOf_at 3 #[.int .i64 8, .int .i64 8, .int .i64 2, .int .i64 0] rfl wr).mono ?_
        rintro e W ⟨rfl, b⟩
        have HBW := Lib.hid (HB.out.trans (b.mono HB.out.size))
        clear b
        go_wp2_with (refine wpList_store_row rfl 47 _ _ rfl W.heap.size #[.int .i64 8, .int .i64 8, .int .i64 2, .int .i64 0] rfl rfl 47 #[.int .i64 0, .int .i64 0, .int .i64 0, .int .i64 0] ?_ wid_size rfl (by simp [Value.oneCell']) ?_; exact heap_alloc_new W _; rw [World.setRow_alloc_new])
        go_roundw
        case rel => exact ⟨4, by omega, by go_num, fun k hk => by rcases (show k < 3 ∨ k = 3 by omega) with h | h; exact HN.out k h; subst h; exact fun e => HS.out e, HBW.out.alloc HBW.out.size _⟩
        case measure => simp [intOf]
    · by_cases hs : n = 22
      · have e0 : ((22 : Int) == (n : Int)) = true := by rw [hs]; rfl
        have HS := Lib.hid hs
        clear hs
        go_wp2_with fail
        refine (widthsOf_at 4 #[.int .i64 8, .int .i64 8, .int .i64 2, .int .i64 2] rfl wr).mono ?_
        rintro e W ⟨rfl, b⟩
        have HBW := Lib.hid (HB.out.trans (b.mono HB.out.size))
        clear b
        go_wp2_with (refine wpList_store_row rfl 47 _ _ rfl W.heap.size #[.int .i64 8, .int .i64 8, .int .i64 2, .int .i64 2] rfl rfl 47 #[.int .i64 0, .int .i64 0, .int .i64 0, .int .i64 0] ?_ wid_size rfl (by simp [Value.oneCell']) ?_; exact heap_alloc_new W _; rw [World.setRow_alloc_new])
        go_ret2
        exact ⟨by rw [HS.out]; rfl, HBW.out.alloc HBW.out.size _⟩
      · have e0 : ((22 : Int) == (n : Int)) = false := by rw [beq_eq_false_iff_ne]; omega
        have HS := Lib.hid hs
        clear hs
        go_wp2_with fail
        refine (widthsOf_at 4 #[.int .i64 8, .int .i64 8, .int .i64 2, .int .i64 2] rfl wr).mono ?_
        rintro e W ⟨rfl, b⟩
        have HBW := Lib.hid (HB.out.trans (b.mono HB.out.size))
        clear b
        go_wp2_with (refine wpList_store_row rfl 47 _ _ rfl W.heap.size #[.int .i64 8, .int .i64 8, .int .i64 2, .int .i64 2] rfl rfl 47 #[.int .i64 0, .int .i64 0, .int .i64 0, .int .i64 0] ?_ wid_size rfl (by simp [Value.oneCell']) ?_; exact heap_alloc_new W _; rw [World.setRow_alloc_new])
        go_roundw
        case rel => exact ⟨5, by omega, by go_num, fun k hk => by rcases (show k < 4 ∨ k = 4 by omega) with h | h; exact HN.out k h; subst h; exact fun e => HS.out e, HBW.out.alloc HBW.out.size _⟩
        case measure => simp [intOf]
    · go_wp2_with fail
      go_ret2
      refine ⟨?_, HB.out⟩
      have h0 := HN.out 0 (by omega)
      have h1 := HN.out 1 (by omega)
      have h2 := HN.out 2 (by omega)
      have h3 := HN.out 3 (by omega)
      have h4 := HN.out 4 (by omega)
      rw [show Cap.size ((0 : Nat) : Int) = 2 from rfl] at h0
      rw [show Cap.size ((1 : Nat) : Int) = 10 from rfl] at h1
      rw [show Cap.size ((2 : Nat) : Int) = 18 from rfl] at h2
      rw [show Cap.size ((3 : Nat) : Int) = 20 from rfl] at h3
      rw [show Cap.size ((4 : Nat) : Int) = 22 from rfl] at h4
      unfold formV formOf
      rw [if_neg h0, if_neg h1, if_neg h2, if_neg h3, if_neg h4]
      rfl
end Go.Proofs.Ytpedbmnifjhaiaa
