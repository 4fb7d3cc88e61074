/-
  A step of plaitlaw02: it answers, and leaves the cursor, as the document's cursor does.
-/
import Derived.Test.YtjkbajhmnfejgaaCurAny
import Derived.Test.YtjkbajhmnfejgaaCurRefs
namespace Go.Proofs.Ytjkbajhmnfejgaa
open Go.ChangeShapes Go.WideShapes Go.ChangeAt Go.RowKit
set_option linter.unusedVariables false

/-- Behind a step both cursors stand alike; nothing below block B has turned. -/
def Same (s : ByteArray) (b r B : Nat) (w : World) (e : Ending) (w' : World) : Prop :=
  e = .returned (.bool true) ∧ ∃ (k : Nat) (br : Bool), k ≤ s.size ∧ Cur w' b s k br ∧ Ref w' r s k br ∧ Below B w w'

theorem qs {P : Program} {f : FuncId} {args : Array Value} {w : World} {n : Nat} {v : Value}
    (h : Calls P f args (w.drewN n) fun e w' => e = .returned v ∧ w.drewN n = w') : Calls P f args (w.drewN n) fun e w'' => e = .returned v ∧ ∃ m, w'' = w.drewN m :=
  Calls.quiet_of_same (h.mono fun _ _ x => ⟨x.1, x.2.symm⟩)

set_option maxRecDepth 100000 in
set_option maxHeartbeats 4000000 in
theorem alike0 (a n : Int) (a0 : 0 ≤ a) (a1 : a ≤ 255) (n0 : -9223372036854775808 ≤ n) (n1 : n ≤ 9223372036854775807) (b r : Nat) (s : ByteArray) (k : Nat) (br : Bool) (B : Nat) (w : World) (hs : s.size ≤ 9223372036854775807) (hk : k ≤ s.size) (hC : Cur w b s k br) (hR : Ref w r s k br) (hb : B ≤ b) (hr : B ≤ r) (hB : B ≤ w.heap.size) (ha : a % 6 = 0) :
    Calls Try.prog 14 #[.agg #[.int .u8 a, .int .i64 n], .pointer (some ⟨b, 0, none⟩), .pointer (some ⟨r, 0, none⟩)] w (Same s b r B w) := by
  have hbr : r ≠ b := Blk.ne_ hR hC (by decide)
  have hbr' : b ≠ r := fun e => hbr e.symm
  have HC0 := Lib.hid hC
  have HR0 := Lib.hid hR
  have nb := numO_le_1 s k br
  clear hC hR
  go_enter Try.func14, Try.ntmps14
  go_wp2_with fail
  clear ha
  refine (U8_any b s k br _ hs hk (Blk.alloc HC0.out _)).mono ?_
  rintro e w1 ⟨rfl, M1⟩
  go_wp2_with fail
  refine (Num_ref r s k br 1 (by omega) _ hs hk (Blk.grown (Blk.alloc HR0.out _) M1.1 (by simpa using hbr))).mono ?_
  rintro e w2 ⟨rfl, M2⟩
  go_wp2_with fail
  have HC := Lib.hid (show Cur w2 b s (posO s k br (1 : Nat)) (brO s k br (1 : Nat)) from Blk.grown M1.2 M2.1 (by simpa using hbr'))
  have HR := Lib.hid M2.2
  have hk2 := posO_le s k br ((1 : Nat) : Int) hk
  have c1 := M2.2.c1
  have HB := Lib.hid (((Below.refl B w).alloc hB (.cells #[.int .u8 a, .int .i64 n] 32)).trans ((below_of_only (B := B) M1.1 hb (by simp; omega)).trans (below_of_only (B := B) M2.1 hr (by have := M1.1.size; simp at this; omega))))
  clear M1 M2
  go_quiet (first
    | (go_at_call 10; exact Calls.quiet_of (Left_any b s (posO s k br (1 : Nat)) (brO s k br (1 : Nat)) _ hs hk2 (Blk.drewN HC.out _)))
    | (go_at_call 30; exact Calls.quiet_of (Left_ref r s (posO s k br (1 : Nat)) (brO s k br (1 : Nat)) _ hs hk2 (Blk.drewN HR.out _)))
    | (go_at_call 11; exact qs (At_any b s (posO s k br (1 : Nat)) (brO s k br (1 : Nat)) _ (Blk.drewN HC.out _)))
    | (go_at_call 12; exact Calls.quiet_of (End_any b s (posO s k br (1 : Nat)) (brO s k br (1 : Nat)) _ hs hk2 (Blk.drewN HC.out _)))
    | (go_at_call 13; exact Calls.quiet_of (End_ref r s (posO s k br (1 : Nat)) (brO s k br (1 : Nat)) _ hs hk2 (Blk.drewN HR.out _))))
  go_wp2
  go_ret
  exact ⟨rfl, _, _, hk2, Blk.drewN HC.out _, Blk.drewN HR.out _, below_drewN HB.out _⟩

set_option maxRecDepth 100000 in
set_option maxHeartbeats 4000000 in
theorem alike1 (a n : Int) (a0 : 0 ≤ a) (a1 : a ≤ 255) (n0 : -9223372036854775808 ≤ n) (n1 : n ≤ 9223372036854775807) (b r : Nat) (s : ByteArray) (k : Nat) (br : Bool) (B : Nat) (w : World) (hs : s.size ≤ 9223372036854775807) (hk : k ≤ s.size) (hC : Cur w b s k br) (hR : Ref w r s k br) (hb : B ≤ b) (hr : B ≤ r) (hB : B ≤ w.heap.size) (ha : a % 6 = 1) :
    Calls Try.prog 14 #[.agg #[.int .u8 a, .int .i64 n], .pointer (some ⟨b, 0, none⟩), .pointer (some ⟨r, 0, none⟩)] w (Same s b r B w) := by
  have hbr : r ≠ b := Blk.ne_ hR hC (by decide)
  have hbr' : b ≠ r := fun e => hbr e.symm
  have HC0 := Lib.hid hC
  have HR0 := Lib.hid hR
  have nb := numO_le_2 s k br
  clear hC hR
  go_enter Try.func14, Try.ntmps14
  go_wp2_with fail
  clear ha
  refine (U16_any b s k br _ hs hk (Blk.alloc HC0.out _)).mono ?_
  rintro e w1 ⟨rfl, M1⟩
  go_wp2_with fail
  refine (Num_ref r s k br 2 (by omega) _ hs hk (Blk.grown (Blk.alloc HR0.out _) M1.1 (by simpa using hbr))).mono ?_
  rintro e w2 ⟨rfl, M2⟩
  go_wp2_with fail
  have HC := Lib.hid (show Cur w2 b s (posO s k br (2 : Nat)) (brO s k br (2 : Nat)) from Blk.grown M1.2 M2.1 (by simpa using hbr'))
  have HR := Lib.hid M2.2
  have hk2 := posO_le s k br ((2 : Nat) : Int) hk
  have c1 := M2.2.c1
  have HB := Lib.hid (((Below.refl B w).alloc hB (.cells #[.int .u8 a, .int .i64 n] 32)).trans ((below_of_only (B := B) M1.1 hb (by simp; omega)).trans (below_of_only (B := B) M2.1 hr (by have := M1.1.size; simp at this; omega))))
  clear M1 M2
  go_quiet (first
    | (go_at_call 10; exact Calls.quiet_of (Left_any b s (posO s k br (2 : Nat)) (brO s k br (2 : Nat)) _ hs hk2 (Blk.drewN HC.out _)))
    | (go_at_call 30; exact Calls.quiet_of (Left_ref r s (posO s k br (2 : Nat)) (brO s k br (2 : Nat)) _ hs hk2 (Blk.drewN HR.out _)))
    | (go_at_call 11; exact qs (At_any b s (posO s k br (2 : Nat)) (brO s k br (2 : Nat)) _ (Blk.drewN HC.out _)))
    | (go_at_call 12; exact Calls.quiet_of (End_any b s (posO s k br (2 : Nat)) (brO s k br (2 : Nat)) _ hs hk2 (Blk.drewN HC.out _)))
    | (go_at_call 13; exact Calls.quiet_of (End_ref r s (posO s k br (2 : Nat)) (brO s k br (2 : Nat)) _ hs hk2 (Blk.drewN HR.out _))))
  go_wp2
  go_ret
  exact ⟨rfl, _, _, hk2, Blk.drewN HC.out _, Blk.drewN HR.out _, below_drewN HB.out _⟩

set_option maxRecDepth 100000 in
set_option maxHeartbeats 4000000 in
theorem alike2 (a n : Int) (a0 : 0 ≤ a) (a1 : a ≤ 255) (n0 : -9223372036854775808 ≤ n) (n1 : n ≤ 9223372036854775807) (b r : Nat) (s : ByteArray) (k : Nat) (br : Bool) (B : Nat) (w : World) (hs : s.size ≤ 9223372036854775807) (hk : k ≤ s.size) (hC : Cur w b s k br) (hR : Ref w r s k br) (hb : B ≤ b) (hr : B ≤ r) (hB : B ≤ w.heap.size) (ha : a % 6 = 2) :
    Calls Try.prog 14 #[.agg #[.int .u8 a, .int .i64 n], .pointer (some ⟨b, 0, none⟩), .pointer (some ⟨r, 0, none⟩)] w (Same s b r B w) := by
  have hbr : r ≠ b := Blk.ne_ hR hC (by decide)
  have hbr' : b ≠ r := fun e => hbr e.symm
  have HC0 := Lib.hid hC
  have HR0 := Lib.hid hR
  have nb := numO_le_4 s k br
  clear hC hR
  go_enter Try.func14, Try.ntmps14
  go_wp2_with fail
  clear ha
  refine (U32_any b s k br _ hs hk (Blk.alloc HC0.out _)).mono ?_
  rintro e w1 ⟨rfl, M1⟩
  go_wp2_with fail
  refine (Num_ref r s k br 4 (by omega) _ hs hk (Blk.grown (Blk.alloc HR0.out _) M1.1 (by simpa using hbr))).mono ?_
  rintro e w2 ⟨rfl, M2⟩
  go_wp2_with fail
  have HC := Lib.hid (show Cur w2 b s (posO s k br (4 : Nat)) (brO s k br (4 : Nat)) from Blk.grown M1.2 M2.1 (by simpa using hbr'))
  have HR := Lib.hid M2.2
  have hk2 := posO_le s k br ((4 : Nat) : Int) hk
  have c1 := M2.2.c1
  have HB := Lib.hid (((Below.refl B w).alloc hB (.cells #[.int .u8 a, .int .i64 n] 32)).trans ((below_of_only (B := B) M1.1 hb (by simp; omega)).trans (below_of_only (B := B) M2.1 hr (by have := M1.1.size; simp at this; omega))))
  clear M1 M2
  go_quiet (first
    | (go_at_call 10; exact Calls.quiet_of (Left_any b s (posO s k br (4 : Nat)) (brO s k br (4 : Nat)) _ hs hk2 (Blk.drewN HC.out _)))
    | (go_at_call 30; exact Calls.quiet_of (Left_ref r s (posO s k br (4 : Nat)) (brO s k br (4 : Nat)) _ hs hk2 (Blk.drewN HR.out _)))
    | (go_at_call 11; exact qs (At_any b s (posO s k br (4 : Nat)) (brO s k br (4 : Nat)) _ (Blk.drewN HC.out _)))
    | (go_at_call 12; exact Calls.quiet_of (End_any b s (posO s k br (4 : Nat)) (brO s k br (4 : Nat)) _ hs hk2 (Blk.drewN HC.out _)))
    | (go_at_call 13; exact Calls.quiet_of (End_ref r s (posO s k br (4 : Nat)) (brO s k br (4 : Nat)) _ hs hk2 (Blk.drewN HR.out _))))
  go_wp2
  go_ret
  exact ⟨rfl, _, _, hk2, Blk.drewN HC.out _, Blk.drewN HR.out _, below_drewN HB.out _⟩

set_option maxRecDepth 100000 in
set_option maxHeartbeats 4000000 in
theorem alike3 (a n : Int) (a0 : 0 ≤ a) (a1 : a ≤ 255) (n0 : -9223372036854775808 ≤ n) (n1 : n ≤ 9223372036854775807) (b r : Nat) (s : ByteArray) (k : Nat) (br : Bool) (B : Nat) (w : World) (hs : s.size ≤ 9223372036854775807) (hk : k ≤ s.size) (hC : Cur w b s k br) (hR : Ref w r s k br) (hb : B ≤ b) (hr : B ≤ r) (hB : B ≤ w.heap.size) (ha : a % 6 = 3) :
    Calls Try.prog 14 #[.agg #[.int .u8 a, .int .i64 n], .pointer (some ⟨b, 0, none⟩), .pointer (some ⟨r, 0, none⟩)] w (Same s b r B w) := by
  have hbr : r ≠ b := Blk.ne_ hR hC (by decide)
  have hbr' : b ≠ r := fun e => hbr e.symm
  have HC0 := Lib.hid hC
  have HR0 := Lib.hid hR
  have nb := numO_le_8 s k br
  clear hC hR
  go_enter Try.func14, Try.ntmps14
  go_wp2_with fail
  clear ha
  refine (U64_any b s k br _ hs hk (Blk.alloc HC0.out _)).mono ?_
  rintro e w1 ⟨rfl, M1⟩
  go_wp2_with fail
  refine (Num_ref r s k br 8 (by omega) _ hs hk (Blk.grown (Blk.alloc HR0.out _) M1.1 (by simpa using hbr))).mono ?_
  rintro e w2 ⟨rfl, M2⟩
  go_wp2_with fail
  have HC := Lib.hid (show Cur w2 b s (posO s k br (8 : Nat)) (brO s k br (8 : Nat)) from Blk.grown M1.2 M2.1 (by simpa using hbr'))
  have HR := Lib.hid M2.2
  have hk2 := posO_le s k br ((8 : Nat) : Int) hk
  have c1 := M2.2.c1
  have HB := Lib.hid (((Below.refl B w).alloc hB (.cells #[.int .u8 a, .int .i64 n] 32)).trans ((below_of_only (B := B) M1.1 hb (by simp; omega)).trans (below_of_only (B := B) M2.1 hr (by have := M1.1.size; simp at this; omega))))
  clear M1 M2
  go_quiet (first
    | (go_at_call 10; exact Calls.quiet_of (Left_any b s (posO s k br (8 : Nat)) (brO s k br (8 : Nat)) _ hs hk2 (Blk.drewN HC.out _)))
    | (go_at_call 30; exact Calls.quiet_of (Left_ref r s (posO s k br (8 : Nat)) (brO s k br (8 : Nat)) _ hs hk2 (Blk.drewN HR.out _)))
    | (go_at_call 11; exact qs (At_any b s (posO s k br (8 : Nat)) (brO s k br (8 : Nat)) _ (Blk.drewN HC.out _)))
    | (go_at_call 12; exact Calls.quiet_of (End_any b s (posO s k br (8 : Nat)) (brO s k br (8 : Nat)) _ hs hk2 (Blk.drewN HC.out _)))
    | (go_at_call 13; exact Calls.quiet_of (End_ref r s (posO s k br (8 : Nat)) (brO s k br (8 : Nat)) _ hs hk2 (Blk.drewN HR.out _))))
  go_wp2
  go_ret
  exact ⟨rfl, _, _, hk2, Blk.drewN HC.out _, Blk.drewN HR.out _, below_drewN HB.out _⟩

set_option maxRecDepth 100000 in
set_option maxHeartbeats 4000000 in
theorem alike4 (a n : Int) (a0 : 0 ≤ a) (a1 : a ≤ 255) (n0 : -9223372036854775808 ≤ n) (n1 : n ≤ 9223372036854775807) (b r : Nat) (s : ByteArray) (k : Nat) (br : Bool) (B : Nat) (w : World) (hs : s.size ≤ 9223372036854775807) (hk : k ≤ s.size) (hC : Cur w b s k br) (hR : Ref w r s k br) (hb : B ≤ b) (hr : B ≤ r) (hB : B ≤ w.heap.size) (ha : a % 6 = 4) :
    Calls Try.prog 14 #[.agg #[.int .u8 a, .int .i64 n], .pointer (some ⟨b, 0, none⟩), .pointer (some ⟨r, 0, none⟩)] w (Same s b r B w) := by
  have hbr : r ≠ b := Blk.ne_ hR hC (by decide)
  have hbr' : b ≠ r := fun e => hbr e.symm
  have blt := hC.lt
  have rlt := hR.lt
  have HC0 := Lib.hid hC
  have HR0 := Lib.hid hR
  clear hC hR
  go_enter Try.func14, Try.ntmps14
  go_wp2_with fail
  clear ha
  have cS : (w.alloc (.cells #[.int .u8 a, .int .i64 n] 32)).cell? ⟨w.heap.size, 1, none⟩ = some (.int .i64 n) := (Blk.new w 32 #[.int .u8 a, .int .i64 n]).cell 1
  go_region_held3 (fun w' => w'.cell? ⟨w.heap.size, 1, none⟩ = some (.int .i64 n)) (first | exact cS | exact M1.1.cell (a := ⟨w.heap.size, 1, none⟩) cS (by simp; omega) | exact M2.1.cell (a := ⟨w.heap.size, 1, none⟩) (M1.1.cell (a := ⟨w.heap.size, 1, none⟩) cS (by simp; omega)) (by simp; omega))
    (first
      | (go_at_call 22; refine (Take_any b s k br n _ hs hk (Blk.drew (Blk.alloc HC0.out _))).mono ?_; rintro e w1 ⟨rfl, M1⟩)
      | (go_at_call 29; refine (Take_ref r s k br n _ hs hk (Blk.grown (Blk.drew (Blk.alloc HR0.out _)) M1.1 (by simpa using hbr))).mono ?_; rintro e w2 ⟨rfl, M2⟩))
  go_wp2_with fail
  have HC := Lib.hid (show Cur w2 b s (posO s k br n) (brO s k br n) from Blk.grown M1.2 M2.1 (by simpa using hbr'))
  have HR := Lib.hid M2.2
  have hk2 := posO_le s k br n hk
  have c1 := M2.2.c1
  have HB := Lib.hid (((Below.refl B w).alloc hB (.cells #[.int .u8 a, .int .i64 n] 32)).drew.trans ((below_of_only (B := B) M1.1 hb (by simp; omega)).trans (below_of_only (B := B) M2.1 hr (by have := M1.1.size; simp at this; omega))))
  clear M1 M2
  go_quiet (first
    | (go_at_call 10; exact Calls.quiet_of (Left_any b s (posO s k br n) (brO s k br n) _ hs hk2 (Blk.drewN HC.out _)))
    | (go_at_call 30; exact Calls.quiet_of (Left_ref r s (posO s k br n) (brO s k br n) _ hs hk2 (Blk.drewN HR.out _)))
    | (go_at_call 11; exact qs (At_any b s (posO s k br n) (brO s k br n) _ (Blk.drewN HC.out _)))
    | (go_at_call 12; exact Calls.quiet_of (End_any b s (posO s k br n) (brO s k br n) _ hs hk2 (Blk.drewN HC.out _)))
    | (go_at_call 13; exact Calls.quiet_of (End_ref r s (posO s k br n) (brO s k br n) _ hs hk2 (Blk.drewN HR.out _))))
  go_wp2
  go_ret
  exact ⟨rfl, _, _, hk2, Blk.drewN HC.out _, Blk.drewN HR.out _, below_drewN HB.out _⟩

set_option maxRecDepth 100000 in
set_option maxHeartbeats 4000000 in
theorem alike5 (a n : Int) (a0 : 0 ≤ a) (a1 : a ≤ 255) (n0 : -9223372036854775808 ≤ n) (n1 : n ≤ 9223372036854775807) (b r : Nat) (s : ByteArray) (k : Nat) (br : Bool) (B : Nat) (w : World) (hs : s.size ≤ 9223372036854775807) (hk : k ≤ s.size) (hC : Cur w b s k br) (hR : Ref w r s k br) (hb : B ≤ b) (hr : B ≤ r) (hB : B ≤ w.heap.size) (ha : a % 6 = 5) :
    Calls Try.prog 14 #[.agg #[.int .u8 a, .int .i64 n], .pointer (some ⟨b, 0, none⟩), .pointer (some ⟨r, 0, none⟩)] w (Same s b r B w) := by
  have hbr : r ≠ b := Blk.ne_ hR hC (by decide)
  have hbr' : b ≠ r := fun e => hbr e.symm
  have HC0 := Lib.hid hC
  have HR0 := Lib.hid hR
  clear hC hR
  go_enter Try.func14, Try.ntmps14
  go_wp2_with fail
  clear ha
  obtain ⟨p, hp⟩ : ∃ p : Int, p = wrap64 ((IntKind.u64.wrap n).tmod 9) := ⟨_, rfl⟩
  rw [← hp]
  have HP := Lib.hid hp
  clear hp
  refine (Take_any b s k br p _ hs hk (Blk.alloc HC0.out _)).mono ?_
  rintro e w1 ⟨rfl, M1⟩
  go_wp2_with fail
  refine (Take_ref r s k br p _ hs hk (Blk.grown (Blk.alloc HR0.out _) M1.1 (by simpa using hbr))).mono ?_
  rintro e w2 ⟨rfl, M2⟩
  go_wp2_with fail
  have HC := Lib.hid (show Cur w2 b s (posO s k br p) (brO s k br p) from Blk.grown M1.2 M2.1 (by simpa using hbr'))
  have HR := Lib.hid M2.2
  have hk2 := posO_le s k br p hk
  have c1 := M2.2.c1
  have HB := Lib.hid (((Below.refl B w).alloc hB (.cells #[.int .u8 a, .int .i64 n] 32)).trans ((below_of_only (B := B) M1.1 hb (by simp; omega)).trans (below_of_only (B := B) M2.1 hr (by have := M1.1.size; simp at this; omega))))
  clear M1 M2
  go_quiet (first
    | (go_at_call 10; exact Calls.quiet_of (Left_any b s (posO s k br p) (brO s k br p) _ hs hk2 (Blk.drewN HC.out _)))
    | (go_at_call 30; exact Calls.quiet_of (Left_ref r s (posO s k br p) (brO s k br p) _ hs hk2 (Blk.drewN HR.out _)))
    | (go_at_call 11; exact qs (At_any b s (posO s k br p) (brO s k br p) _ (Blk.drewN HC.out _)))
    | (go_at_call 12; exact Calls.quiet_of (End_any b s (posO s k br p) (brO s k br p) _ hs hk2 (Blk.drewN HC.out _)))
    | (go_at_call 13; exact Calls.quiet_of (End_ref r s (posO s k br p) (brO s k br p) _ hs hk2 (Blk.drewN HR.out _))))
  go_wp2
  go_ret
  exact ⟨rfl, _, _, hk2, Blk.drewN HC.out _, Blk.drewN HR.out _, below_drewN HB.out _⟩

theorem alike_any (a n : Int) (a0 : 0 ≤ a) (a1 : a ≤ 255) (n0 : -9223372036854775808 ≤ n) (n1 : n ≤ 9223372036854775807) (b r : Nat) (s : ByteArray) (k : Nat) (br : Bool) (B : Nat) (w : World) (hs : s.size ≤ 9223372036854775807) (hk : k ≤ s.size) (hC : Cur w b s k br) (hR : Ref w r s k br) (hb : B ≤ b) (hr : B ≤ r) (hB : B ≤ w.heap.size) :
    Calls Try.prog 14 #[.agg #[.int .u8 a, .int .i64 n], .pointer (some ⟨b, 0, none⟩), .pointer (some ⟨r, 0, none⟩)] w (Same s b r B w) := by
  obtain h | h | h | h | h | h : a % 6 = 0 ∨ a % 6 = 1 ∨ a % 6 = 2 ∨ a % 6 = 3 ∨ a % 6 = 4 ∨ a % 6 = 5 := by omega
  · exact alike0 a n a0 a1 n0 n1 b r s k br B w hs hk hC hR hb hr hB h
  · exact alike1 a n a0 a1 n0 n1 b r s k br B w hs hk hC hR hb hr hB h
  · exact alike2 a n a0 a1 n0 n1 b r s k br B w hs hk hC hR hb hr hB h
  · exact alike3 a n a0 a1 n0 n1 b r s k br B w hs hk hC hR hb hr hB h
  · exact alike4 a n a0 a1 n0 n1 b r s k br B w hs hk hC hR hb hr hB h
  · exact alike5 a n a0 a1 n0 n1 b r s k br B w hs hk hC hR hb hr hB h
end Go.Proofs.Ytjkbajhmnfejgaa
