/-
  The table of flags, and what the functions that read it answer: flagsOf, noFlags; and the document's own flags of a segment (plaitref05).
-/
import Derived.Test.YthdcjcdgddejbaaDoorHeadFix
namespace Go.Proofs.YthdcjcdgddejbaaDoor
open Go.ChangeShapes Go.WideShapes Go.ChangeAt Go.RowKit
set_option linter.unusedVariables false

/-- The table of flags holds what the program's text lays there. -/
structure Tbl (w : World) : Prop where
  lt : 0 < w.heap.size
  c0 : w.cell? ⟨0, 0, none⟩ = some (.int .u32 1)
  c1 : w.cell? ⟨0, 1, none⟩ = some (.int .u32 2)
  c2 : w.cell? ⟨0, 2, none⟩ = some (.int .u32 4)
  c3 : w.cell? ⟨0, 3, none⟩ = some (.int .u32 16)
theorem Tbl.under {w w' : World} {B : Nat} (h : Tbl w) (b : Below B w w') (hB : 0 < B) : Tbl w' := by
  have e : w'.heap[0]? = w.heap[0]? := b.block _ hB
  have k : ∀ i, w'.cell? ⟨0, i, none⟩ = w.cell? ⟨0, i, none⟩ := fun i => World.cell?_of_block (a := ⟨0, i, none⟩) e
  exact ⟨Nat.lt_of_lt_of_le h.lt b.size, (k 0).trans h.c0, (k 1).trans h.c1, (k 2).trans h.c2, (k 3).trans h.c3⟩
theorem Tbl.below {w w' : World} (h : Tbl w) (b : Below w.heap.size w w') : Tbl w' := h.under b h.lt
theorem Tbl.alloc {w : World} (h : Tbl w) (o : Obj) : Tbl (w.alloc o) := h.below ((Below.refl _ w).alloc (Nat.le_refl _) o)
theorem Tbl.drewN {w : World} (h : Tbl w) (n : Nat) : Tbl (w.drewN n) := h.below (below_drewN (Below.refl _ w) n)

/-- What of the flags has been gathered behind j rounds. -/
def some4 (a b c d : Bool) : Nat → Int
  | 0 => 0
  | 1 => if a then 1 else 0
  | 2 => (if a then 1 else 0) + (if b then 2 else 0)
  | 3 => (if a then 1 else 0) + (if b then 2 else 0) + (if c then 4 else 0)
  | _ => (if a then 1 else 0) + (if b then 2 else 0) + (if c then 4 else 0) + (if d then 16 else 0)
theorem some4_all (x : Sg) : some4 x.fin x.syn x.rst x.ackOn 4 = (x.flags : Int) := by
  unfold Sg.flags some4; cases x.fin <;> cases x.syn <;> cases x.rst <;> cases x.ackOn <;> rfl
theorem some4_f0 (b c d : Bool) : some4 false b c d 0 = some4 false b c d 1 := rfl
theorem some4_f1 (a c d : Bool) : some4 a false c d 1 = some4 a false c d 2 := by cases a <;> rfl
theorem some4_f2 (a b d : Bool) : some4 a b false d 2 = some4 a b false d 3 := by cases a <;> cases b <;> rfl
theorem some4_f3 (a b c : Bool) : some4 a b c false 3 = some4 a b c false 4 := by cases a <;> cases b <;> cases c <;> rfl
theorem or_flag (a b c d : Bool) : bits .or .u32 (some4 a b c d 0) 1 = some4 true b c d 1 ∧ bits .or .u32 (some4 a b c d 1) 2 = some4 a true c d 2 ∧ bits .or .u32 (some4 a b c d 2) 4 = some4 a b true d 3 ∧ bits .or .u32 (some4 a b c d 3) 16 = some4 a b c true 4 := by
  cases a <;> cases b <;> cases c <;> cases d <;> decide

set_option maxHeartbeats 1000000 in
theorem flagsOf_any (x : Sg) (w : World) (ht : Tbl w) :
    Calls Tryd.prog 32 #[.agg #[.int .i64 x.path, .int .u16 x.src, .int .u16 x.dst, .int .u32 x.seq, .int .u32 x.ack, .bool x.syn, .bool x.ackOn, .bool x.fin, .bool x.rst, .int .u16 x.win, .string x.area, .string x.data]] w fun e w' => e = .returned (.int .u32 (x.flags : Int)) ∧ Below w.heap.size w w' := by
  rw [← some4_all]
  obtain ⟨path, src, dst, seq, ack, syn, ackOn, fin, rst, win, area, data⟩ := x
  dsimp only
  have HT := Lib.hid ht
  clear ht
  go_enter Tryd.func32, Tryd.ntmps32
  go_wp2
  obtain ⟨W0, hW0⟩ : ∃ W0, W0 = w.alloc (.cells #[.int .i64 path, .int .u16 src, .int .u16 dst, .int .u32 seq, .int .u32 ack, .bool syn, .bool ackOn, .bool fin, .bool rst, .int .u16 win, .string area, .string data] 25) := ⟨_, rfl⟩
  have T0 : Tbl W0 := by rw [hW0]; exact HT.out.alloc _
  have B0 : Below w.heap.size w W0 := by rw [hW0]; exact (Below.refl _ w).alloc (Nat.le_refl _) _
  have c0 := T0.c0
  have c1 := T0.c1
  have c2 := T0.c2
  have c3 := T0.c3
  have HB := Lib.hid B0
  have i0 : ∀ w, (Instr.index 78 (.agg #[.bool fin, .bool syn, .bool rst, .bool ackOn]) (.int .i64 0)).run Tryd.prog w = .ok (.bool fin) w := fun _ => by kernel_rfl
  have i1 : ∀ w, (Instr.index 78 (.agg #[.bool fin, .bool syn, .bool rst, .bool ackOn]) (.int .i64 1)).run Tryd.prog w = .ok (.bool syn) w := fun _ => by kernel_rfl
  have i2 : ∀ w, (Instr.index 78 (.agg #[.bool fin, .bool syn, .bool rst, .bool ackOn]) (.int .i64 2)).run Tryd.prog w = .ok (.bool rst) w := fun _ => by kernel_rfl
  have i3 : ∀ w, (Instr.index 78 (.agg #[.bool fin, .bool syn, .bool rst, .bool ackOn]) (.int .i64 3)).run Tryd.prog w = .ok (.bool ackOn) w := fun _ => by kernel_rfl
  rw [← hW0]
  clear hW0 T0 B0
  have HO := Lib.hid (or_flag fin syn rst ackOn)
  go_loopw [15, 3] (fun i x wr => ∃ j : Nat, j ≤ 4 ∧ i = .int .i64 (j : Int) ∧ x = .int .u32 (some4 fin syn rst ackOn j) ∧ W0 = wr) (fun i _ _ => 4 - (intOf i).toNat)
  case atStart => exact ⟨0, by decide, rfl, rfl, rfl⟩
  case round =>
    obtain ⟨j, hj, rfl, rfl, rfl⟩ := hrel
    obtain rfl | rfl | rfl | rfl | rfl : j = 0 ∨ j = 1 ∨ j = 2 ∨ j = 3 ∨ j = 4 := by omega
    · obtain ⟨a, ha⟩ : ∃ a, a = some4 fin syn rst ackOn 0 := ⟨_, rfl⟩
      have e := HO.out.1
      rw [← ha] at e ⊢
      have HA := Lib.hid ha
      clear ha
      cases fin
      · clear e i1 c1 i2 c2 i3 c3
        go_wp2
        go_roundw
        case rel => exact ⟨1, by decide, rfl, by rw [HA.out, some4_f0], by first | rfl | trivial⟩
        case measure => simp [intOf]
      · have HE := Lib.hid e
        clear e i1 c1 i2 c2 i3 c3
        go_wp2
        go_roundw
        case rel => exact ⟨1, by decide, rfl, by rw [HE.out], by first | rfl | trivial⟩
        case measure => simp [intOf]
    · obtain ⟨a, ha⟩ : ∃ a, a = some4 fin syn rst ackOn 1 := ⟨_, rfl⟩
      have e := HO.out.2.1
      rw [← ha] at e ⊢
      have HA := Lib.hid ha
      clear ha
      cases syn
      · clear e i0 c0 i2 c2 i3 c3
        go_wp2
        go_roundw
        case rel => exact ⟨2, by decide, rfl, by rw [HA.out, some4_f1], by first | rfl | trivial⟩
        case measure => simp [intOf]
      · have HE := Lib.hid e
        clear e i0 c0 i2 c2 i3 c3
        go_wp2
        go_roundw
        case rel => exact ⟨2, by decide, rfl, by rw [HE.out], by first | rfl | trivial⟩
        case measure => simp [intOf]
    · obtain ⟨a, ha⟩ : ∃ a, a = some4 fin syn rst ackOn 2 := ⟨_, rfl⟩
      have e := HO.out.2.2.1
      rw [← ha] at e ⊢
      have HA := Lib.hid ha
      clear ha
      cases rst
      · clear e i0 c0 i1 c1 i3 c3
        go_wp2
        go_roundw
        case rel => exact ⟨3, by decide, rfl, by rw [HA.out, some4_f2], by first | rfl | trivial⟩
        case measure => simp [intOf]
      · have HE := Lib.hid e
        clear e i0 c0 i1 c1 i3 c3
        go_wp2
        go_roundw
        case rel => exact ⟨3, by decide, rfl, by rw [HE.out], by first | rfl | trivial⟩
        case measure => simp [intOf]
    · obtain ⟨a, ha⟩ : ∃ a, a = some4 fin syn rst ackOn 3 := ⟨_, rfl⟩
      have e := HO.out.2.2.2
      rw [← ha] at e ⊢
      have HA := Lib.hid ha
      clear ha
      cases ackOn
      · clear e i0 c0 i1 c1 i2 c2
        go_wp2
        go_roundw
        case rel => exact ⟨4, by decide, rfl, by rw [HA.out, some4_f3], by first | rfl | trivial⟩
        case measure => simp [intOf]
      · have HE := Lib.hid e
        clear e i0 c0 i1 c1 i2 c2
        go_wp2
        go_roundw
        case rel => exact ⟨4, by decide, rfl, by rw [HE.out], by first | rfl | trivial⟩
        case measure => simp [intOf]
    · clear i0 i1 i2 i3 c0 c1 c2 c3
      go_wp2
      go_ret; exact ⟨rfl, HB.out⟩

/-- What is left of a number behind j rounds of 'noFlags'. -/
def no4 (n : Int) : Nat → Int
  | 0 => n
  | 1 => bits .andNot .u32 n 1
  | 2 => bits .andNot .u32 (bits .andNot .u32 n 1) 2
  | 3 => bits .andNot .u32 (bits .andNot .u32 (bits .andNot .u32 n 1) 2) 4
  | _ => bits .andNot .u32 (bits .andNot .u32 (bits .andNot .u32 (bits .andNot .u32 n 1) 2) 4) 16
theorem no4_zero (f : Nat) (h : f ≤ 255) : (no4 (f : Int) 4 = 0) ↔ (f / 32 = 0 ∧ f / 8 % 2 = 0) := by
  have all : ∀ i : Fin 256, (no4 ((i.val : Nat) : Int) 4 = 0) ↔ (i.val / 32 = 0 ∧ i.val / 8 % 2 = 0) := by decide +kernel
  exact all ⟨f, by omega⟩

set_option maxHeartbeats 1000000 in
theorem noFlags_any (n : Int) (w : World) (ht : Tbl w) :
    Calls Tryd.prog 37 #[.int .u32 n] w fun e w' => e = .returned (.int .u32 (no4 n 4)) ∧ w = w' := by
  have c0 := ht.c0
  have c1 := ht.c1
  have c2 := ht.c2
  have c3 := ht.c3
  clear ht
  have i0 : ∀ w, (Instr.index 77 (.agg #[.int .u32 1, .int .u32 2, .int .u32 4, .int .u32 16]) (.int .i64 0)).run Tryd.prog w = .ok (.int .u32 1) w := fun _ => by kernel_rfl
  have i1 : ∀ w, (Instr.index 77 (.agg #[.int .u32 1, .int .u32 2, .int .u32 4, .int .u32 16]) (.int .i64 1)).run Tryd.prog w = .ok (.int .u32 2) w := fun _ => by kernel_rfl
  have i2 : ∀ w, (Instr.index 77 (.agg #[.int .u32 1, .int .u32 2, .int .u32 4, .int .u32 16]) (.int .i64 2)).run Tryd.prog w = .ok (.int .u32 4) w := fun _ => by kernel_rfl
  have i3 : ∀ w, (Instr.index 77 (.agg #[.int .u32 1, .int .u32 2, .int .u32 4, .int .u32 16]) (.int .i64 3)).run Tryd.prog w = .ok (.int .u32 16) w := fun _ => by kernel_rfl
  go_enter Tryd.func37, Tryd.ntmps37
  go_wp2
  clear c0 c1 c2 c3
  go_loopw [6, 0] (fun i x wr => ∃ j : Nat, j ≤ 4 ∧ i = .int .i64 (j : Int) ∧ x = .int .u32 (no4 n j) ∧ w = wr) (fun i _ _ => 4 - (intOf i).toNat)
  case atStart => exact ⟨0, by decide, rfl, rfl, rfl⟩
  case round =>
    obtain ⟨j, hj, rfl, rfl, rfl⟩ := hrel
    obtain rfl | rfl | rfl | rfl | rfl : j = 0 ∨ j = 1 ∨ j = 2 ∨ j = 3 ∨ j = 4 := by omega
    · obtain ⟨a, ha⟩ : ∃ a, a = no4 n 0 := ⟨_, rfl⟩
      rw [← ha]
      have HA := Lib.hid ha
      clear ha i1 i2 i3
      go_wp2
      go_roundw
      case rel => exact ⟨1, by decide, rfl, by rw [HA.out]; rfl, by first | rfl | trivial⟩
      case measure => simp [intOf]
    · obtain ⟨a, ha⟩ : ∃ a, a = no4 n 1 := ⟨_, rfl⟩
      rw [← ha]
      have HA := Lib.hid ha
      clear ha i0 i2 i3
      go_wp2
      go_roundw
      case rel => exact ⟨2, by decide, rfl, by rw [HA.out]; rfl, by first | rfl | trivial⟩
      case measure => simp [intOf]
    · obtain ⟨a, ha⟩ : ∃ a, a = no4 n 2 := ⟨_, rfl⟩
      rw [← ha]
      have HA := Lib.hid ha
      clear ha i0 i1 i3
      go_wp2
      go_roundw
      case rel => exact ⟨3, by decide, rfl, by rw [HA.out]; rfl, by first | rfl | trivial⟩
      case measure => simp [intOf]
    · obtain ⟨a, ha⟩ : ∃ a, a = no4 n 3 := ⟨_, rfl⟩
      rw [← ha]
      have HA := Lib.hid ha
      clear ha i0 i1 i2
      go_wp2
      go_roundw
      case rel => exact ⟨4, by decide, rfl, by rw [HA.out]; rfl, by first | rfl | trivial⟩
      case measure => simp [intOf]
    · obtain ⟨a, ha⟩ : ∃ a, a = no4 n 4 := ⟨_, rfl⟩
      rw [← ha]
      have HA := Lib.hid ha
      clear ha i0 i1 i2 i3
      go_wp2
      go_ret; exact ⟨ret_int HA.out, rfl⟩

theorem flags_ref (x : Sg) (w : World) :
    Calls Tryd.prog 24 #[.agg #[.int .i64 x.path, .int .u16 x.src, .int .u16 x.dst, .int .u32 x.seq, .int .u32 x.ack, .bool x.syn, .bool x.ackOn, .bool x.fin, .bool x.rst, .int .u16 x.win, .string x.area, .string x.data]] w fun e w' => e = .returned (.int .u64 (x.flags : Int)) ∧ Below w.heap.size w w' := by
  obtain ⟨path, src, dst, seq, ack, syn, ackOn, fin, rst, win, area, data⟩ := x
  unfold Sg.flags
  dsimp only
  cases fin <;> cases syn <;> cases rst <;> cases ackOn <;>
  · go_enter Tryd.func24, Tryd.ntmps24
    go_wp2
    go_ret; exact ⟨rfl, (Below.refl _ w).alloc (Nat.le_refl _) _⟩
end Go.Proofs.YthdcjcdgddejbaaDoor
