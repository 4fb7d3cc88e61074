/-
  What package head reads off the fixed bytes: a number at its place, where the data begins (measure), the segment's fields (segOf).
-/
import Derived.Test.YthdcjcdgddejbaaDoorHeadLay
import Derived.StillTailTactics
import Derived.Laws.Tables
namespace Go.Proofs.YthdcjcdgddejbaaDoor
open Go.ChangeShapes Go.WideShapes Go.ChangeAt Go.RowKit
set_option linter.unusedVariables false

theorem cut3 (l : List UInt8) (p m : Nat) : l = l.take p ++ (l.drop p).take m ++ l.drop (p + m) := by
  rw [List.append_assoc, ← List.drop_drop, List.take_append_drop, List.take_append_drop]
theorem number_at (b p m q : Nat) (l : List UInt8) (r : Nat) (w : World) (hq : q = p + m) (hm : 1 ≤ m) (hm4 : m ≤ 4) (hl : l.length = 20) (hp : p + m ≤ 20) (hr : fld l p m = r) (h : Fx w b l) :
    Calls Tryd.prog 36 #[.pointer (some ⟨b, 0, none⟩), .int .i64 (p : Int), .int .i64 (q : Int)] w fun e w' => e = .returned (.int .u32 (r : Int)) ∧ w = w' := by
  have e := cut3 l p m
  exact number_any b p m q (l.take p) ((l.drop p).take m) (l.drop (p + m)) r w hq hm hm4 (by rw [List.length_take]; omega) (by rw [List.length_take, List.length_drop]; omega) (by rw [← e]; exact hl) hr (by rw [← e]; exact h)

/-- Where the data begins, and what is wrong. -/
def meas (l : List UInt8) (n : Nat) : Int × Int :=
  if fld l 12 1 < 80 ∨ fld l 12 1 % 16 ≠ 0 then (0, 5)
  else if n < fld l 12 1 / 16 * 4 then (0, 4)
  else if fld l 13 1 / 32 ≠ 0 ∨ fld l 13 1 / 8 % 2 ≠ 0 ∨ fld l 18 2 ≠ 0 then (0, 5)
  else if n - fld l 12 1 / 16 * 4 > 1024 then (0, 6)
  else (((fld l 12 1 / 16 * 4 : Nat) : Int), 0)

set_option maxHeartbeats 2000000 in
set_option maxRecDepth 100000 in
theorem measure_any (l : List UInt8) (n : Nat) (w : World) (hl : l.length = 20) (hn : n ≤ 4611686018427387904) (ht : Tbl w) :
    Calls Tryd.prog 28 #[.agg (byv l), .int .i64 (n : Int)] w fun e w' => e = .returned (.tuple #[.int .i64 (meas l n).1, .int .i64 (meas l n).2]) ∧ Below w.heap.size w w' := by
  unfold meas
  obtain ⟨u, hu⟩ : ∃ u, fld l 12 1 = u := ⟨_, rfl⟩
  obtain ⟨f, hf⟩ : ∃ f, fld l 13 1 = f := ⟨_, rfl⟩
  obtain ⟨z, hz⟩ : ∃ z, fld l 18 2 = z := ⟨_, rfl⟩
  have u1 : u ≤ 255 := by rw [← hu]; exact fld1_lt l 12
  have f1 : f ≤ 255 := by rw [← hf]; exact fld1_lt l 13
  have z1 : z ≤ 65535 := by rw [← hz]; exact fld2_lt l 18
  rw [hu, hf, hz]
  have HL := Lib.hid hl
  have HU := Lib.hid hu
  have HF := Lib.hid hf
  have HZ := Lib.hid hz
  have HX := Lib.hid (Fx.new w l)
  have HT := Lib.hid (ht.alloc (.cells (byv l) 51))
  have HN := Lib.hid (no4_zero f f1)
  have fin : ∀ (a b c d : Int), a = c → b = d → Ending.returned (.tuple #[.int .i64 a, .int .i64 b]) = .returned (.tuple #[.int .i64 c, .int .i64 d]) := fun _ _ _ _ h k => by rw [h, k]
  have HFN := Lib.hid fin
  clear hl hu hf hz ht fin
  by_cases a1 : u < 80
  · have d1 : decide ((u : Int) < 80) = true := by simp; omega
    rw [if_pos (.inl a1)]
    go_enter Tryd.func28, Tryd.ntmps28
    go_wp2_with (go_at_call 36; refine (number_at w.heap.size 12 1 13 l u _ rfl (by decide) (by decide) HL.out (by decide) HU.out HX.out).mono ?_; rintro e w' ⟨rfl, rfl⟩)
    go_ret2; exact ⟨rfl, (Below.refl _ w).alloc (Nat.le_refl _) _⟩
  have d1 : decide ((u : Int) < 80) = false := by simp; omega
  by_cases a2 : u % 16 = 0
  rotate_left
  · have d2 : ((u : Int) % 16 != 0) = true := by simp; omega
    rw [if_pos (.inr a2)]
    go_enter Tryd.func28, Tryd.ntmps28
    go_wp2_with (go_at_call 36; refine (number_at w.heap.size 12 1 13 l u _ rfl (by decide) (by decide) HL.out (by decide) HU.out HX.out).mono ?_; rintro e w' ⟨rfl, rfl⟩)
    go_ret2; exact ⟨rfl, (Below.refl _ w).alloc (Nat.le_refl _) _⟩
  have d2 : ((u : Int) % 16 != 0) = false := by simp; omega
  rw [if_neg (by omega)]
  by_cases a3 : n < u / 16 * 4
  · have d3 : decide ((n : Int) < (u : Int) / 16 * 4) = true := by simp; omega
    rw [if_pos a3]
    clear a3
    go_enter Tryd.func28, Tryd.ntmps28
    go_wp2_with (go_at_call 36; refine (number_at w.heap.size 12 1 13 l u _ rfl (by decide) (by decide) HL.out (by decide) HU.out HX.out).mono ?_; rintro e w' ⟨rfl, rfl⟩)
    go_ret2; exact ⟨rfl, (Below.refl _ w).alloc (Nat.le_refl _) _⟩
  have d3 : decide ((n : Int) < (u : Int) / 16 * 4) = false := by simp; omega
  rw [if_neg a3]
  by_cases a4 : f / 32 = 0 ∧ f / 8 % 2 = 0
  rotate_left
  · have d4 : (no4 (f : Int) 4 != 0) = true := by
      have := HN.out
      simp only [bne_iff_ne, ne_eq]
      intro h
      exact a4 (this.1 h)
    rw [if_pos (by omega)]
    clear a3 a4
    go_enter Tryd.func28, Tryd.ntmps28
    go_wp2_with fail
    refine (number_at w.heap.size 12 1 13 l u _ rfl (by decide) (by decide) HL.out (by decide) HU.out HX.out).mono ?_
    rintro e w' ⟨rfl, rfl⟩
    go_wp2_with fail
    refine (number_at w.heap.size 13 1 14 l f _ rfl (by decide) (by decide) HL.out (by decide) HF.out HX.out).mono ?_
    rintro e w' ⟨rfl, rfl⟩
    go_wp2_with fail
    refine (noFlags_any (f : Int) _ HT.out).mono ?_
    rintro e w' ⟨rfl, rfl⟩
    go_wp2
    go_ret2; exact ⟨rfl, (Below.refl _ w).alloc (Nat.le_refl _) _⟩
  have d4 : (no4 (f : Int) 4 != 0) = false := by
    have h0 := HN.out.2 a4
    rw [h0]; rfl
  by_cases a5 : z = 0
  rotate_left
  · have d5 : ((z : Int) != 0) = true := by simp; omega
    rw [if_pos (.inr (.inr a5))]
    clear a3 a4 a5
    go_enter Tryd.func28, Tryd.ntmps28
    go_wp2_with fail
    refine (number_at w.heap.size 12 1 13 l u _ rfl (by decide) (by decide) HL.out (by decide) HU.out HX.out).mono ?_
    rintro e w' ⟨rfl, rfl⟩
    go_wp2_with fail
    refine (number_at w.heap.size 13 1 14 l f _ rfl (by decide) (by decide) HL.out (by decide) HF.out HX.out).mono ?_
    rintro e w' ⟨rfl, rfl⟩
    go_wp2_with fail
    refine (noFlags_any (f : Int) _ HT.out).mono ?_
    rintro e w' ⟨rfl, rfl⟩
    go_wp2_with fail
    refine (number_at w.heap.size 18 2 20 l z _ rfl (by decide) (by decide) HL.out (by decide) HZ.out HX.out).mono ?_
    rintro e w' ⟨rfl, rfl⟩
    go_wp2
    go_ret2; exact ⟨rfl, (Below.refl _ w).alloc (Nat.le_refl _) _⟩
  have d5 : ((z : Int) != 0) = false := by simp; omega
  rw [if_neg (by omega)]
  have ew : IntKind.i64.wrap ((n : Int) - (u : Int) / 16 * 4) = (n : Int) - (u : Int) / 16 * 4 := IntWalk.i64_in _ (by omega)
  by_cases a6 : n - u / 16 * 4 > 1024
  · have d6 : decide ((1024 : Int) < (n : Int) - (u : Int) / 16 * 4) = true := by simp; omega
    rw [if_pos a6]
    clear a3 a4 a5 a6
    go_enter Tryd.func28, Tryd.ntmps28
    go_wp2_with fail
    refine (number_at w.heap.size 12 1 13 l u _ rfl (by decide) (by decide) HL.out (by decide) HU.out HX.out).mono ?_
    rintro e w' ⟨rfl, rfl⟩
    go_wp2_with fail
    refine (number_at w.heap.size 13 1 14 l f _ rfl (by decide) (by decide) HL.out (by decide) HF.out HX.out).mono ?_
    rintro e w' ⟨rfl, rfl⟩
    go_wp2_with fail
    refine (noFlags_any (f : Int) _ HT.out).mono ?_
    rintro e w' ⟨rfl, rfl⟩
    go_wp2_with fail
    refine (number_at w.heap.size 18 2 20 l z _ rfl (by decide) (by decide) HL.out (by decide) HZ.out HX.out).mono ?_
    rintro e w' ⟨rfl, rfl⟩
    go_wp2
    go_ret2; exact ⟨rfl, (Below.refl _ w).alloc (Nat.le_refl _) _⟩
  · have d6 : decide ((1024 : Int) < (n : Int) - (u : Int) / 16 * 4) = false := by simp; omega
    have HUU := Lib.hid (show (u : Int) / 16 * 4 = ((u / 16 * 4 : Nat) : Int) by omega)
    rw [if_neg a6]
    clear a3 a4 a5 a6
    go_enter Tryd.func28, Tryd.ntmps28
    go_wp2_with fail
    refine (number_at w.heap.size 12 1 13 l u _ rfl (by decide) (by decide) HL.out (by decide) HU.out HX.out).mono ?_
    rintro e w' ⟨rfl, rfl⟩
    go_wp2_with fail
    refine (number_at w.heap.size 13 1 14 l f _ rfl (by decide) (by decide) HL.out (by decide) HF.out HX.out).mono ?_
    rintro e w' ⟨rfl, rfl⟩
    go_wp2_with fail
    refine (noFlags_any (f : Int) _ HT.out).mono ?_
    rintro e w' ⟨rfl, rfl⟩
    go_wp2_with fail
    refine (number_at w.heap.size 18 2 20 l z _ rfl (by decide) (by decide) HL.out (by decide) HZ.out HX.out).mono ?_
    rintro e w' ⟨rfl, rfl⟩
    go_wp2
    go_ret2; exact ⟨HFN.out _ _ _ _ HUU.out rfl, (Below.refl _ w).alloc (Nat.le_refl _) _⟩

theorem number_z (b : Nat) (P Q : Int) (l : List UInt8) (w : World) (h0 : 0 ≤ P) (h1 : P < Q) (h2 : Q ≤ P + 4) (h3 : Q ≤ 20) (hl : l.length = 20) (h : Fx w b l) :
    Calls Tryd.prog 36 #[.pointer (some ⟨b, 0, none⟩), .int .i64 P, .int .i64 Q] w fun e w' => e = .returned (.int .u32 (fld l P.toNat (Q - P).toNat : Nat)) ∧ w = w' := by
  obtain ⟨p, rfl⟩ := Int.eq_ofNat_of_zero_le h0
  obtain ⟨q, rfl⟩ := Int.eq_ofNat_of_zero_le (show 0 ≤ Q by omega)
  exact number_at b p (q - p) q l _ w (by omega) (by omega) (by omega) hl (by omega) (by rw [Int.toNat_natCast, show ((q : Int) - (p : Int)).toNat = q - p by omega]) h
theorem number_s (b : Nat) (P Q : Int) (l : List UInt8) (w : World) (h0 : 0 ≤ P) (h1 : P < Q) (h2 : Q ≤ P + 4) (h3 : Q ≤ 20) (hl : l.length = 20) (h : Fx w b l) :
    Calls Tryd.prog 36 #[.pointer (some ⟨b, 0, none⟩), .int .i64 P, .int .i64 Q] w fun e w' => e = .returned (.int .u32 (fld l P.toNat (Q - P).toNat : Nat)) ∧ w' = w :=
  (number_z b P Q l w h0 h1 h2 h3 hl h).mono fun _ _ x => ⟨x.1, x.2.symm⟩
/-- A whole struct, or array, is stored: as one step of a region that draws its order. -/
theorem step_store_row {P : Program} {ops : Array Oper} {o : Oper} {a : Act} {w : World} {K : Act → World → Prop} {Q : Exit → Act → World → Prop} {E : Prop} (hgd : o.guard = none) (ty : TypeId) (x y : Operand) (ho : o.op = .store ty x y)
    (g : Nat) (cells : Array Value) (hx : a.eval x = .pointer (some ⟨g, 0, none⟩)) (hy : a.eval y = .agg cells)
    (t : TypeId) (old : Array Value) (hg : w.heap[g]? = some (.cells old t (0, 0))) (hi : (P.info? ty).map (·.size) = some cells.size)
    (hold : old.size = cells.size) (h1 : cells.all (·.oneCell') = true) (h : K (a.put o.dst undef) (w.setRow g cells)) :
    if Region.wanted o (yielded ops a.tmps) = true then Oper.wp P o a w K Q else E := by
  have hw : Region.wanted o (yielded ops a.tmps) = true := by simp [Region.wanted, hgd]
  rw [if_pos hw]
  exact wp_store_row ty x y ho g cells hx hy t old hg hi hold h1 h
theorem and_flags (f : Nat) (h : f ≤ 255) : (bits .and .u32 (f : Int) 1 != 0) = (f % 2 == 1) ∧ (bits .and .u32 (f : Int) 2 != 0) = (f / 2 % 2 == 1) ∧ (bits .and .u32 (f : Int) 4 != 0) = (f / 4 % 2 == 1) ∧ (bits .and .u32 (f : Int) 16 != 0) = (f / 16 % 2 == 1) := by
  have all : ∀ i : Fin 256, (bits .and .u32 ((i.val : Nat) : Int) 1 != 0) = (i.val % 2 == 1) ∧ (bits .and .u32 ((i.val : Nat) : Int) 2 != 0) = (i.val / 2 % 2 == 1) ∧ (bits .and .u32 ((i.val : Nat) : Int) 4 != 0) = (i.val / 4 % 2 == 1) ∧ (bits .and .u32 ((i.val : Nat) : Int) 16 != 0) = (i.val / 16 % 2 == 1) := by decide +kernel
  exact all ⟨f, by omega⟩
theorem segv_one (x : Sg) : (segv x).all (·.oneCell') = true := by simp [Value.oneCell']
/-- The segment of which the fixed bytes speak, with no Area and no Data. -/
def hd (l : List UInt8) : Sg :=
  ⟨0, fld l 0 2, fld l 2 2, fld l 4 4, fld l 8 4, fld l 13 1 / 2 % 2 == 1, fld l 13 1 / 16 % 2 == 1, fld l 13 1 % 2 == 1, fld l 13 1 / 4 % 2 == 1, fld l 14 2, ⟨#[]⟩, ⟨#[]⟩⟩

set_option maxHeartbeats 2000000 in
set_option maxRecDepth 100000 in
theorem segOf_any (l : List UInt8) (w : World) (hl : l.length = 20) (ht : Tbl w) :
    Calls Tryd.prog 30 #[.agg (byv l)] w fun e w' => e = .returned (.agg (segv (hd l))) ∧ Below w.heap.size w w' := by
  obtain ⟨f, hf⟩ : ∃ f, fld l 13 1 = f := ⟨_, rfl⟩
  have HL := Lib.hid hl
  have HF := Lib.hid hf
  clear hl hf
  go_enter Tryd.func30, Tryd.ntmps30
  go_wp2_with fail
  refine (number_at w.heap.size 13 1 14 l f _ rfl (by decide) (by decide) HL.out (by decide) HF.out ((Fx.new w l).alloc _)).mono ?_
  rintro e w' ⟨rfl, rfl⟩
  go_wp2_with fail
  obtain ⟨Z, hZ⟩ : ∃ Z : Array Value, Z = #[.int .i64 0, .int .u16 0, .int .u16 0, .int .u32 0, .int .u32 0, .bool false, .bool false, .bool false, .bool false, .int .u16 0, .string ⟨#[]⟩, .string ⟨#[]⟩] := ⟨_, rfl⟩
  obtain ⟨W1, hW1⟩ : ∃ W1, W1 = (w.alloc (.cells (byv l) 51)).alloc (.cells Z 25) := ⟨_, rfl⟩
  have T1 : Tbl W1.drew := by rw [hW1]; exact (((ht.alloc _).alloc _).drewN 1)
  have F1 : Fx W1.drew w.heap.size l := by rw [hW1]; exact Blk.drew ((Fx.new w l).alloc _)
  have S1 : Blk W1 (w.heap.size + 1) 25 Z := by
    rw [hW1]; have := Blk.new (w.alloc (.cells (byv l) 51)) 25 Z; rwa [World.size_alloc] at this
  have B1 : Below w.heap.size w W1 := by rw [hW1]; exact ((Below.refl _ w).alloc (Nat.le_refl _) _).alloc (by simp) _
  rw [← hZ, ← hW1]
  have HZS := Lib.hid (show Z.size = 12 by rw [hZ]; rfl)
  have HB1 := Lib.hid B1.drew
  have HS1 := Lib.hid S1.drew
  clear hW1 B1 S1
  refine wp_region_still_tail 29 (by kernel_rfl) (by kernel_rfl) ?_
  simp only [List.take_succ_cons, List.take_zero, List.drop_succ_cons, List.drop_zero]
  change wpStill _ _ W1.drew _ _ _
  obtain ⟨W2, hW2⟩ : ∃ W2, W2 = W1.drew := ⟨_, rfl⟩
  have HW2 := Lib.hid hW2
  rw [← hW2] at T1 F1 ⊢
  clear hW2
  have c0 := T1.c0
  have c1 := T1.c1
  have c2 := T1.c2
  have c3 := T1.c3
  have HF1 := Lib.hid F1
  clear ht T1 F1 hZ
  repeat (first | still_step | still_call (number_s w.heap.size _ _ l _ (by decide) (by decide) (by decide) (by decide) HL.out HF1.out))
  refine wpStill_nil ?_
  change wpList _ _ _ _ _ W1.drew
  have e0 : IntKind.u16.wrap ((fld l 0 2 : Nat) : Int) = ((fld l 0 2 : Nat) : Int) := by rw [IntKind.wrap_u16]; have := fld2_lt l 0; omega
  have e2 : IntKind.u16.wrap ((fld l 2 2 : Nat) : Int) = ((fld l 2 2 : Nat) : Int) := by rw [IntKind.wrap_u16]; have := fld2_lt l 2; omega
  have e14 : IntKind.u16.wrap ((fld l 14 2 : Nat) : Int) = ((fld l 14 2 : Nat) : Int) := by rw [IntKind.wrap_u16]; have := fld2_lt l 14; omega
  obtain ⟨g1, g2, g4, g16⟩ := and_flags f (by rw [← HF.out]; exact fld1_lt l 13)
  rw [e0, e2, e14, g1, g2, g4, g16]
  refine wpList_store_row rfl 25 _ _ rfl (w.heap.size + 1) (segv (hd l)) rfl (by rw [hd, HF.out]; rfl) 25 Z HS1.out seg_size (by rw [HZS.out]; rfl) (segv_one _) ?_
  have HB2 := Lib.hid (below_setRow HB1.out (by omega : w.heap.size ≤ w.heap.size + 1) (segv (hd l)))
  have HS2 := Lib.hid (setRow_heap _ (w.heap.size + 1) _ (segv (hd l)) _ _ HS1.out)
  clear c0 c1 c2 c3
  go_wp2
  refine bodyPost_ret (results_cell_row rfl _ _ (w.heap.size + 1) 25 (segv (hd l)) (0, 0) _ rfl HS2.out Tryd.underlying25 rfl seg_size) rfl ⟨rfl, HB2.out⟩
end Go.Proofs.YthdcjcdgddejbaaDoor
