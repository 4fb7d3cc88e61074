/-
  How segments are laid, of which there are no bytes, and how many numbers they take, is as the document says: of all segments and shapes (statement HeadLays, promise P5.1), the table of flags being what the program's text lays.
-/
import Derived.Test.YthdcjcdgddejbaaDoorHeadOpen
import Derived.Test.YthdcjcdgddejbaaDoorHeadRefs
import Derived.Deep.RegionHeld3
namespace Go.Proofs.YthdcjcdgddejbaaDoor.headLays
open Go.ChangeShapes Go.WideShapes Go.ChangeAt Go.RowKit
set_option linter.unusedVariables false


theorem lay_form (x : Sg) : ∃ (T : ByteArray) (c : Int), x.lay = .tuple #[.string T, .int .i64 c] := by
  cases h : x.fits
  · exact ⟨_, _, x.lay_f h⟩
  · exact ⟨_, _, x.lay_t h⟩

set_option maxHeartbeats 4000000 in
set_option maxRecDepth 100000 in
theorem walk (x : Sg) (hx : x.Ok) (zdx : x.data.size ≤ 140737488351232) (a d c : Int) (ha : 0 ≤ a ∧ a ≤ 255) (hd : 0 ≤ d ∧ d ≤ 65535) (hc : 0 ≤ c ∧ c ≤ 255) (w : World) (ht : Tbl w) :
    Calls Tryd.prog 3 #[.agg (segv x), .agg #[.int .u8 a, .int .u16 d, .int .u8 c]] w fun e w' => e = .returned (.bool true) ∧ Below w.heap.size w w' := by
  have HX := Lib.hid hx
  have HA := Lib.hid ha
  have HD := Lib.hid hd
  have HC := Lib.hid hc
  have ZDX := Lib.hid zdx
  have S1' := Blk.new w 25 (segv x)
  have S2' := Blk.new (w.alloc (.cells (segv x) 25)) 27 #[.int .u8 a, .int .u16 d, .int .u8 c]
  rw [World.size_alloc] at S2'
  have HS1a := Lib.hid (S1'.alloc (.cells #[.int .u8 a, .int .u16 d, .int .u8 c] 27))
  have HS2a := Lib.hid S2'
  have HT1 := Lib.hid ((ht.alloc (.cells (segv x) 25)).alloc (.cells #[.int .u8 a, .int .u16 d, .int .u8 c] 27))
  have HB1 := Lib.hid (((Below.refl _ w).alloc (Nat.le_refl _) (.cells (segv x) 25)).alloc (by simp) (.cells #[.int .u8 a, .int .u16 d, .int .u8 c] 27))
  clear hx ha hd hc ht S1' S2' zdx
  go_enter Tryd.func3, Tryd.ntmps3
  go_wp2
  obtain ⟨W1, hW1⟩ : ∃ W1, W1 = (w.alloc (.cells (segv x) 25)).alloc (.cells #[.int .u8 a, .int .u16 d, .int .u8 c] 27) := ⟨_, rfl⟩
  rw [← hW1] at HS1a HS2a HT1 HB1 ⊢
  clear hW1
  go_region_held3 (fun V => V.cell? ⟨w.heap.size, 0, none⟩ = some (.int .i64 x.path) ∧ V.cell? ⟨w.heap.size, 1, none⟩ = some (.int .u16 x.src) ∧ V.cell? ⟨w.heap.size, 2, none⟩ = some (.int .u16 x.dst) ∧ V.cell? ⟨w.heap.size, 3, none⟩ = some (.int .u32 x.seq) ∧ V.cell? ⟨w.heap.size, 4, none⟩ = some (.int .u32 x.ack) ∧ V.cell? ⟨w.heap.size, 5, none⟩ = some (.bool x.syn) ∧ V.cell? ⟨w.heap.size, 6, none⟩ = some (.bool x.ackOn) ∧ V.cell? ⟨w.heap.size, 7, none⟩ = some (.bool x.fin) ∧ V.cell? ⟨w.heap.size, 8, none⟩ = some (.bool x.rst) ∧ V.cell? ⟨w.heap.size, 9, none⟩ = some (.int .u16 x.win) ∧ V.cell? ⟨w.heap.size, 10, none⟩ = some (.string x.area) ∧ V.cell? ⟨w.heap.size, 11, none⟩ = some (.string x.data) ∧ V.cell? ⟨w.heap.size + 1, 0, none⟩ = some (.int .u8 a) ∧ V.cell? ⟨w.heap.size + 1, 1, none⟩ = some (.int .u16 d) ∧ V.cell? ⟨w.heap.size + 1, 2, none⟩ = some (.int .u8 c))
    (first | exact ⟨HS1a.out.cell 0, HS1a.out.cell 1, HS1a.out.cell 2, HS1a.out.cell 3, HS1a.out.cell 4, HS1a.out.cell 5, HS1a.out.cell 6, HS1a.out.cell 7, HS1a.out.cell 8, HS1a.out.cell 9, HS1a.out.cell 10, HS1a.out.cell 11, HS2a.out.cell 0, HS2a.out.cell 1, HS2a.out.cell 2⟩ | exact ⟨HS1b.out.cell 0, HS1b.out.cell 1, HS1b.out.cell 2, HS1b.out.cell 3, HS1b.out.cell 4, HS1b.out.cell 5, HS1b.out.cell 6, HS1b.out.cell 7, HS1b.out.cell 8, HS1b.out.cell 9, HS1b.out.cell 10, HS1b.out.cell 11, HS2b.out.cell 0, HS2b.out.cell 1, HS2b.out.cell 2⟩)
    (first
      | (go_at_call 8; refine (Filled_any a d c x _ HA.out.1 HA.out.2 HD.out.1 HD.out.2 HC.out.1 HC.out.2).mono ?_; rintro e W2 ⟨A, D, zA, zD, rfl, b2⟩; have HS1b := Lib.hid (Blk.below HS1a.out.drew b2 HS1a.out.drew.lt); have HS2b := Lib.hid (Blk.below HS2a.out.drew b2 HS2a.out.drew.lt); have HT2 := Lib.hid ((HT1.out.drewN 1).below b2); have HB2 := Lib.hid (below_then HB1.out.drew b2); have ZA := Lib.hid zA; have ZD := Lib.hid zD; clear b2 zA zD))
  obtain ⟨y, hy⟩ : ∃ y : Sg, y = { x with area := A, data := D } := ⟨_, rfl⟩
  rw [← hy]
  have i0 : ∀ W, (Instr.index 29 (.agg #[.int .i64 x.path, .int .u16 x.src, .int .u16 x.dst, .int .u32 x.seq, .int .u32 x.ack, .bool x.syn, .bool x.ackOn, .bool x.fin, .bool x.rst, .int .u16 x.win, .string x.area, .string x.data, .int .i64 x.path, .int .u16 x.src, .int .u16 x.dst, .int .u32 x.seq, .int .u32 x.ack, .bool x.syn, .bool x.ackOn, .bool x.fin, .bool x.rst, .int .u16 x.win, .string A, .string D]) (.int .i64 0)).run Tryd.prog W = .ok (.agg (segv x)) W := fun _ => by kernel_rfl
  have i1 : ∀ W, (Instr.index 29 (.agg #[.int .i64 x.path, .int .u16 x.src, .int .u16 x.dst, .int .u32 x.seq, .int .u32 x.ack, .bool x.syn, .bool x.ackOn, .bool x.fin, .bool x.rst, .int .u16 x.win, .string x.area, .string x.data, .int .i64 x.path, .int .u16 x.src, .int .u16 x.dst, .int .u32 x.seq, .int .u32 x.ack, .bool x.syn, .bool x.ackOn, .bool x.fin, .bool x.rst, .int .u16 x.win, .string A, .string D]) (.int .i64 1)).run Tryd.prog W = .ok (.agg (segv y)) W := fun _ => by rw [hy]; kernel_rfl
  obtain ⟨PA, hPA⟩ : ∃ PA : Value, PA = .agg #[.int .i64 x.path, .int .u16 x.src, .int .u16 x.dst, .int .u32 x.seq, .int .u32 x.ack, .bool x.syn, .bool x.ackOn, .bool x.fin, .bool x.rst, .int .u16 x.win, .string x.area, .string x.data, .int .i64 x.path, .int .u16 x.src, .int .u16 x.dst, .int .u32 x.seq, .int .u32 x.ack, .bool x.syn, .bool x.ackOn, .bool x.fin, .bool x.rst, .int .u16 x.win, .string A, .string D] := ⟨_, rfl⟩
  rw [← hPA] at i0 i1 ⊢
  have HOKX := Lib.hid HX.out
  have HOKY := Lib.hid (show y.Ok by rw [hy]; exact ⟨HX.out.src, HX.out.dst, HX.out.seq, HX.out.ack, HX.out.win, by show A.size ≤ _; have := ZA.out; omega, by show D.size ≤ _; have := ZD.out; omega⟩)
  have ZDY := Lib.hid (show y.data.size ≤ 140737488351232 by rw [hy]; show D.size ≤ _; have := ZD.out; omega)
  clear hPA hy HS1a HS2a HT1 HB1 HS1b HS2b ZA ZD HA HD HC HX
  go_wp2
  go_loopw [17] (fun i wr => ∃ j : Nat, j ≤ 2 ∧ i = .int .i64 (j : Int) ∧ Below w.heap.size w wr ∧ Tbl wr) (fun i _ => 2 - (intOf i).toNat)
  case atStart => exact ⟨0, by decide, rfl, HB2.out, HT2.out⟩
  case round =>
    obtain ⟨j, hj, rfl, hBr', hTr'⟩ := hrel
    have hBr := Lib.hid hBr'
    have hTr := Lib.hid hTr'
    clear hBr' hTr'
    obtain rfl | rfl | rfl : j = 0 ∨ j = 1 ∨ j = 2 := by omega
    · clear i1
      go_wp2_with (first
        | refine wpList_store_row rfl 25 _ _ rfl wr.heap.size (segv x) rfl rfl 25 _ (heap_alloc_new wr _) seg_size rfl (segv_one _) ?_
        | refine wpList_load_row rfl 25 _ rfl wr.heap.size rfl 25 (segv x) (0, 0) _ (setRow_heap _ wr.heap.size _ (segv x) _ _ (heap_alloc_new wr _)) Tryd.underlying25 rfl seg_size ?_)
      rw [World.setRow_alloc_new]
      obtain ⟨V1, hV1⟩ : ∃ V1, V1 = wr.alloc (.cells (segv x) 25) := ⟨_, rfl⟩
      obtain ⟨g, hg⟩ : ∃ g, g = wr.heap.size := ⟨_, rfl⟩
      have X1 := Lib.hid (show Blk V1 g 25 (segv x) by rw [hV1, hg]; exact Blk.new _ _ _)
      have T1 := Lib.hid (show Tbl V1 by rw [hV1]; exact hTr.out.alloc _)
      have B1 := Lib.hid (show Below w.heap.size w V1 by rw [hV1]; exact hBr.out.alloc hBr.out.size _)
      rw [← hV1, ← hg]
      clear hV1 hg
      refine (Lay_any x _ HOKX.out T1.out).mono ?_
      rintro e V2 ⟨rfl, b2⟩
      have X2 := Lib.hid (X1.out.below b2 X1.out.lt)
      have T2 := Lib.hid (T1.out.below b2)
      have B2 := Lib.hid (below_then B1.out b2)
      clear b2 X1 T1 B1
      obtain ⟨T, cd, hlay⟩ := lay_form x
      rw [hlay]
      go_wp2_with (refine wpList_load_row rfl 25 _ rfl g rfl 25 (segv x) (0, 0) _ X2.out Tryd.underlying25 rfl seg_size ?_)
      refine (LayR_any x _ HOKX.out).mono ?_
      rintro e V3 ⟨rfl, b3⟩
      rw [hlay]
      have X3 := Lib.hid (X2.out.below b3 X2.out.lt)
      have T3 := Lib.hid (T2.out.below b3)
      have B3 := Lib.hid (below_then B2.out b3)
      clear b3 X2 T2 B2 hlay
      have zd : (x.data.size : Int) ≤ 140737488355328 := by have := ZDX.out; omega
      have c11 : V3.cell? ⟨g, 11, none⟩ = some (.string x.data) := X3.out.cell 11
      rcases Bool.eq_false_or_eq_true x.syn with hs | hs <;> rcases Bool.eq_false_or_eq_true x.fin with hfi | hfi
      · have c5 : V3.cell? ⟨g, 5, none⟩ = some (.bool true) := (X3.out.cell 5).trans (by show some (Value.bool x.syn) = _; rw [hs])
        have c7 : V3.cell? ⟨g, 7, none⟩ = some (.bool true) := (X3.out.cell 7).trans (by show some (Value.bool x.fin) = _; rw [hfi])
        have hlong : x.long = (x.data.size : Int) + 1 + 1 := by unfold Sg.long; rw [hs, hfi]; simp
        have HLG := Lib.hid hlong
        clear hs hfi hlong
        go_wp2_with (refine wpList_load_row rfl 25 _ rfl g rfl 25 (segv x) (0, 0) _ X3.out Tryd.underlying25 rfl seg_size ?_)
        refine (Long_any x _ HOKX.out).mono ?_
        rintro e V4 ⟨rfl, b4⟩
        rw [HLG.out]
        have T4 := Lib.hid (T3.out.below b4)
        have B4 := Lib.hid (below_then B3.out b4)
        clear b4
        go_wp2
        go_roundw
        case rel => exact ⟨1, by decide, rfl, B4.out, T4.out⟩
        case measure => simp [intOf]
      · have c5 : V3.cell? ⟨g, 5, none⟩ = some (.bool true) := (X3.out.cell 5).trans (by show some (Value.bool x.syn) = _; rw [hs])
        have c7 : V3.cell? ⟨g, 7, none⟩ = some (.bool false) := (X3.out.cell 7).trans (by show some (Value.bool x.fin) = _; rw [hfi])
        have hlong : x.long = (x.data.size : Int) + 1 := by unfold Sg.long; rw [hs, hfi]; simp
        have HLG := Lib.hid hlong
        clear hs hfi hlong
        go_wp2_with (refine wpList_load_row rfl 25 _ rfl g rfl 25 (segv x) (0, 0) _ X3.out Tryd.underlying25 rfl seg_size ?_)
        refine (Long_any x _ HOKX.out).mono ?_
        rintro e V4 ⟨rfl, b4⟩
        rw [HLG.out]
        have T4 := Lib.hid (T3.out.below b4)
        have B4 := Lib.hid (below_then B3.out b4)
        clear b4
        go_wp2
        go_roundw
        case rel => exact ⟨1, by decide, rfl, B4.out, T4.out⟩
        case measure => simp [intOf]
      · have c5 : V3.cell? ⟨g, 5, none⟩ = some (.bool false) := (X3.out.cell 5).trans (by show some (Value.bool x.syn) = _; rw [hs])
        have c7 : V3.cell? ⟨g, 7, none⟩ = some (.bool true) := (X3.out.cell 7).trans (by show some (Value.bool x.fin) = _; rw [hfi])
        have hlong : x.long = (x.data.size : Int) + 1 := by unfold Sg.long; rw [hs, hfi]; simp
        have HLG := Lib.hid hlong
        clear hs hfi hlong
        go_wp2_with (refine wpList_load_row rfl 25 _ rfl g rfl 25 (segv x) (0, 0) _ X3.out Tryd.underlying25 rfl seg_size ?_)
        refine (Long_any x _ HOKX.out).mono ?_
        rintro e V4 ⟨rfl, b4⟩
        rw [HLG.out]
        have T4 := Lib.hid (T3.out.below b4)
        have B4 := Lib.hid (below_then B3.out b4)
        clear b4
        go_wp2
        go_roundw
        case rel => exact ⟨1, by decide, rfl, B4.out, T4.out⟩
        case measure => simp [intOf]
      · have c5 : V3.cell? ⟨g, 5, none⟩ = some (.bool false) := (X3.out.cell 5).trans (by show some (Value.bool x.syn) = _; rw [hs])
        have c7 : V3.cell? ⟨g, 7, none⟩ = some (.bool false) := (X3.out.cell 7).trans (by show some (Value.bool x.fin) = _; rw [hfi])
        have hlong : x.long = (x.data.size : Int) := by unfold Sg.long; rw [hs, hfi]; simp
        have HLG := Lib.hid hlong
        clear hs hfi hlong
        go_wp2_with (refine wpList_load_row rfl 25 _ rfl g rfl 25 (segv x) (0, 0) _ X3.out Tryd.underlying25 rfl seg_size ?_)
        refine (Long_any x _ HOKX.out).mono ?_
        rintro e V4 ⟨rfl, b4⟩
        rw [HLG.out]
        have T4 := Lib.hid (T3.out.below b4)
        have B4 := Lib.hid (below_then B3.out b4)
        clear b4
        go_wp2
        go_roundw
        case rel => exact ⟨1, by decide, rfl, B4.out, T4.out⟩
        case measure => simp [intOf]
    · clear i0
      go_wp2_with (first
        | refine wpList_store_row rfl 25 _ _ rfl wr.heap.size (segv y) rfl rfl 25 _ (heap_alloc_new wr _) seg_size rfl (segv_one _) ?_
        | refine wpList_load_row rfl 25 _ rfl wr.heap.size rfl 25 (segv y) (0, 0) _ (setRow_heap _ wr.heap.size _ (segv y) _ _ (heap_alloc_new wr _)) Tryd.underlying25 rfl seg_size ?_)
      rw [World.setRow_alloc_new]
      obtain ⟨V1, hV1⟩ : ∃ V1, V1 = wr.alloc (.cells (segv y) 25) := ⟨_, rfl⟩
      obtain ⟨g, hg⟩ : ∃ g, g = wr.heap.size := ⟨_, rfl⟩
      have X1 := Lib.hid (show Blk V1 g 25 (segv y) by rw [hV1, hg]; exact Blk.new _ _ _)
      have T1 := Lib.hid (show Tbl V1 by rw [hV1]; exact hTr.out.alloc _)
      have B1 := Lib.hid (show Below w.heap.size w V1 by rw [hV1]; exact hBr.out.alloc hBr.out.size _)
      rw [← hV1, ← hg]
      clear hV1 hg
      refine (Lay_any y _ HOKY.out T1.out).mono ?_
      rintro e V2 ⟨rfl, b2⟩
      have X2 := Lib.hid (X1.out.below b2 X1.out.lt)
      have T2 := Lib.hid (T1.out.below b2)
      have B2 := Lib.hid (below_then B1.out b2)
      clear b2 X1 T1 B1
      obtain ⟨T, cd, hlay⟩ := lay_form y
      rw [hlay]
      go_wp2_with (refine wpList_load_row rfl 25 _ rfl g rfl 25 (segv y) (0, 0) _ X2.out Tryd.underlying25 rfl seg_size ?_)
      refine (LayR_any y _ HOKY.out).mono ?_
      rintro e V3 ⟨rfl, b3⟩
      rw [hlay]
      have X3 := Lib.hid (X2.out.below b3 X2.out.lt)
      have T3 := Lib.hid (T2.out.below b3)
      have B3 := Lib.hid (below_then B2.out b3)
      clear b3 X2 T2 B2 hlay
      have zd : (y.data.size : Int) ≤ 140737488355328 := by have := ZDY.out; omega
      have c11 : V3.cell? ⟨g, 11, none⟩ = some (.string y.data) := X3.out.cell 11
      rcases Bool.eq_false_or_eq_true y.syn with hs | hs <;> rcases Bool.eq_false_or_eq_true y.fin with hfi | hfi
      · have c5 : V3.cell? ⟨g, 5, none⟩ = some (.bool true) := (X3.out.cell 5).trans (by show some (Value.bool y.syn) = _; rw [hs])
        have c7 : V3.cell? ⟨g, 7, none⟩ = some (.bool true) := (X3.out.cell 7).trans (by show some (Value.bool y.fin) = _; rw [hfi])
        have hlong : y.long = (y.data.size : Int) + 1 + 1 := by unfold Sg.long; rw [hs, hfi]; simp
        have HLG := Lib.hid hlong
        clear hs hfi hlong
        go_wp2_with (refine wpList_load_row rfl 25 _ rfl g rfl 25 (segv y) (0, 0) _ X3.out Tryd.underlying25 rfl seg_size ?_)
        refine (Long_any y _ HOKY.out).mono ?_
        rintro e V4 ⟨rfl, b4⟩
        rw [HLG.out]
        have T4 := Lib.hid (T3.out.below b4)
        have B4 := Lib.hid (below_then B3.out b4)
        clear b4
        go_wp2
        go_roundw
        case rel => exact ⟨2, by decide, rfl, B4.out, T4.out⟩
        case measure => simp [intOf]
      · have c5 : V3.cell? ⟨g, 5, none⟩ = some (.bool true) := (X3.out.cell 5).trans (by show some (Value.bool y.syn) = _; rw [hs])
        have c7 : V3.cell? ⟨g, 7, none⟩ = some (.bool false) := (X3.out.cell 7).trans (by show some (Value.bool y.fin) = _; rw [hfi])
        have hlong : y.long = (y.data.size : Int) + 1 := by unfold Sg.long; rw [hs, hfi]; simp
        have HLG := Lib.hid hlong
        clear hs hfi hlong
        go_wp2_with (refine wpList_load_row rfl 25 _ rfl g rfl 25 (segv y) (0, 0) _ X3.out Tryd.underlying25 rfl seg_size ?_)
        refine (Long_any y _ HOKY.out).mono ?_
        rintro e V4 ⟨rfl, b4⟩
        rw [HLG.out]
        have T4 := Lib.hid (T3.out.below b4)
        have B4 := Lib.hid (below_then B3.out b4)
        clear b4
        go_wp2
        go_roundw
        case rel => exact ⟨2, by decide, rfl, B4.out, T4.out⟩
        case measure => simp [intOf]
      · have c5 : V3.cell? ⟨g, 5, none⟩ = some (.bool false) := (X3.out.cell 5).trans (by show some (Value.bool y.syn) = _; rw [hs])
        have c7 : V3.cell? ⟨g, 7, none⟩ = some (.bool true) := (X3.out.cell 7).trans (by show some (Value.bool y.fin) = _; rw [hfi])
        have hlong : y.long = (y.data.size : Int) + 1 := by unfold Sg.long; rw [hs, hfi]; simp
        have HLG := Lib.hid hlong
        clear hs hfi hlong
        go_wp2_with (refine wpList_load_row rfl 25 _ rfl g rfl 25 (segv y) (0, 0) _ X3.out Tryd.underlying25 rfl seg_size ?_)
        refine (Long_any y _ HOKY.out).mono ?_
        rintro e V4 ⟨rfl, b4⟩
        rw [HLG.out]
        have T4 := Lib.hid (T3.out.below b4)
        have B4 := Lib.hid (below_then B3.out b4)
        clear b4
        go_wp2
        go_roundw
        case rel => exact ⟨2, by decide, rfl, B4.out, T4.out⟩
        case measure => simp [intOf]
      · have c5 : V3.cell? ⟨g, 5, none⟩ = some (.bool false) := (X3.out.cell 5).trans (by show some (Value.bool y.syn) = _; rw [hs])
        have c7 : V3.cell? ⟨g, 7, none⟩ = some (.bool false) := (X3.out.cell 7).trans (by show some (Value.bool y.fin) = _; rw [hfi])
        have hlong : y.long = (y.data.size : Int) := by unfold Sg.long; rw [hs, hfi]; simp
        have HLG := Lib.hid hlong
        clear hs hfi hlong
        go_wp2_with (refine wpList_load_row rfl 25 _ rfl g rfl 25 (segv y) (0, 0) _ X3.out Tryd.underlying25 rfl seg_size ?_)
        refine (Long_any y _ HOKY.out).mono ?_
        rintro e V4 ⟨rfl, b4⟩
        rw [HLG.out]
        have T4 := Lib.hid (T3.out.below b4)
        have B4 := Lib.hid (below_then B3.out b4)
        clear b4
        go_wp2
        go_roundw
        case rel => exact ⟨2, by decide, rfl, B4.out, T4.out⟩
        case measure => simp [intOf]
    · clear i0 i1
      go_wp2_with fail
      refine (works_any _ hTr.out).mono ?_
      rintro e V1 ⟨rfl, b1⟩
      have B1 := Lib.hid (below_then hBr.out b1)
      clear b1
      go_wp2
      go_ret; exact ⟨rfl, B1.out⟩

set_option maxRecDepth 100000 in
theorem lifted (os : Os) (started : os.Started) (H : Type) (enc : TypeId × Value → H) :
    ReturnsInHanded {} Tryd.checked os 3 .any (fun w args => (Rows.headLaysSpec.pre enc Tryd.prog Tryd.f3 [] false w args ∧ laidMetH Tryd.prog laid1 w) ∧ sizedMet enc Tryd.prog Tryd.f3 (OpenSpec.ofChange Rows.headLaysSpec) false w args)
      (Rows.headLaysSpec.post enc Tryd.prog Tryd.f3 false true false false) := by
  refine returnsInHanded_of_change_and (C := Tryd.checked) (X := fun w _ => laidMetH Tryd.prog laid1 w) (fun _ _ _ hh h => h.of_heap hh) own started (by kernel_rfl) Tryd.func3
    (ChangeSpec.witness_shaped (enc := enc) (C := Tryd.checked) (os := os) (X := fun w _ => laidMetH Tryd.prog laid1 w) false (World.doorLaid Tryd.prog 400 os) #[.agg #[.int .i64 0, .int .u16 0, .int .u16 0, .int .u32 0, .int .u32 0, .bool false, .bool false, .bool false, .bool false, .int .u16 0, .string ByteArray.empty, .string ByteArray.empty], .agg #[.int .u8 0, .int .u16 0, .int .u8 0]] 8 rfl (World.shaped_of_RefB (by kernel_rfl) (by kernel_rfl)) (by kernel_rfl) (by kernel_rfl) (by kernel_rfl) (door_met os _)) ?_
  intro W base args ds gs before hval0 hW hcnd hsz0 hL _
  have hsz : (DataW.weightsEach Tryd.prog (Tryd.f3.params.toList ++ Rows.headLaysSpec.plain.varTypes Tryd.prog) (ds ++ gs)).all (· ≤ reachBytes) = true := hsz0
  have ht := table_of hL
  have hval : ∀ (j : Nat) t v, Tryd.f3.params[j]? = some t → args[j]? = some v → Value.okWide Tryd.prog W .any base t v := hval0
  have hW' := hW
  obtain ⟨p, q, hA0, hV, rfl, hfz, hnd⟩ := hW
  have hA : DataW.TrodAll enc Tryd.prog W 0 (fun _ => true) true Tryd.f3.params.toList args.toList ds p := hA0
  rw [Tryd.params3] at hA hval hsz
  obtain ⟨v0, vs0, d0, ds0, p0, q0, hargs, rfl, rfl, h0, r0⟩ := trodAll_cons hA
  obtain ⟨v1, vs1, d1, ds1, p1, q1, rfl, rfl, rfl, h1, r1⟩ := trodAll_cons r0
  obtain ⟨rfl, rfl, rfl⟩ := trodAll_nil r1
  obtain rfl : args = #[v0, v1] := by cases args; simp_all
  obtain ⟨rfl, rfl⟩ := trodVars_none hV
  have k0 := h0
  have lt0 : ∀ x ∈ p0, x.block < W.heap.size := by obtain ⟨m, hm⟩ := k0; exact DataW.trod_lt m _ _ _ hm
  obtain ⟨x0, rfl, s1, s2, s3, s4, s5, parts, hd0, g10, g11⟩ := open_seg (hval 0 25 v0 rfl rfl) h0
  have k1 := h1
  have lt1 : ∀ x ∈ p1, x.block < W.heap.size := by obtain ⟨m, hm⟩ := k1; exact DataW.trod_lt m _ _ _ hm
  obtain ⟨a1, b1, c1, rfl, ra1, rb1, rc1⟩ := open_shape (hval 1 27 v1 rfl rfl) h1
  have za : x0.area.size ≤ 140737488351232 := by have := agg_string hsz (j := 0) (k := 10) (t := 25) (tk := 9) rfl (by rw [hd0]; rfl) Tryd.underlying25 rfl g10; simpa [reachBytes] using this
  have zd : x0.data.size ≤ 140737488351232 := by have := agg_string hsz (j := 0) (k := 11) (t := 25) (tk := 9) rfl (by rw [hd0]; rfl) Tryd.underlying25 rfl g11; simpa [reachBytes] using this
  have hok : x0.Ok := ⟨s1, s2, s3, s4, s5, by omega, by omega⟩
  clear hA0 hval0
  simp only [List.append_nil] at hW'
  refine (walk x0 hok zd a1 b1 c1 ra1 rb1 rc1 W ht).mono fun e W' ⟨he, bel⟩ => ?_
  subst he
  exact ⟨_, rfl, _, _, _, [], _, [], hW', trodAll_mk1 (shut_bool Tryd.underlying4 _), (trodAll_cons_mk (Below.trod laidOut (by kernel_rfl) (of_decide_eq_true (by kernel_rfl)) k0 bel lt0) (trodAll_cons_mk (Below.trod laidOut (by kernel_rfl) (of_decide_eq_true (by kernel_rfl)) k1 bel lt1) trodAll_mk0)), rfl, bel.frame _, fun h => by cases h⟩

theorem over : Rows.HeadLaysSaid :=
  OpenClaim.holds_of_wide 3 Tryd.f3 rfl rfl rfl rfl rfl rfl rfl ⟨rfl, rfl, rfl, rfl, rfl⟩ rfl rfl rfl rfl rfl (by kernel_rfl) Tryd.func3 (by kernel_rfl)
    (of_decide_eq_true (by kernel_rfl)) (by unfold Func.isWrapper; first | (rw [if_pos (by decide +kernel)]; kernel_rfl) | (rw [if_neg (by decide +kernel)]; exact ⟨rfl, rfl⟩))
    (fun os started H enc _ => lifted os started H enc)

theorem proved : Rows.HeadLaysCardSaid :=
  Claim7.holds_tied_plain_at .later [] [.data] true _ false
    over (fun _ h => by cases h) (by kernel_rfl) (fun _ h => by cases h) headLays_row_tie rfl ⟨rfl, rfl⟩ (by kernel_rfl) rfl
    (fun f fn hf hfn => by
      obtain rfl : f = 3 := Option.some.inj ((show Tryd.prog.funcNamed "plait/plaitlaw05.HeadLays" = some 3 by kernel_rfl).symm.trans hf) |>.symm
      obtain rfl : fn = Tryd.f3 := (Option.some.inj (Tryd.func3.symm.trans hfn)).symm
      exact ⟨by kernel_rfl, fun j t ht => by
        rw [Tryd.params3] at ht
        have hm : t ∈ ([25, 27] : List TypeId) := by simpa using Array.mem_of_getElem? ht
        have hall : (([25, 27] : List TypeId).all fun u => !Tryd.prog.wantsStandIn u) = true := by kernel_rfl
        exact (show Tryd.prog.wantsStandIn t = false by simpa using List.all_eq_true.1 hall t hm)⟩)
    (by kernel_rfl)
#print axioms proved
end Go.Proofs.YthdcjcdgddejbaaDoor.headLays
