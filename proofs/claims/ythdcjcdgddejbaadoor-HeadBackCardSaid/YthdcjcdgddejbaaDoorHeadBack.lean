/-
  What is laid is parsed back, but for the path; what any bytes are parsed as is laid as these bytes, but for a checksum of 65535: of all segments, shapes, and bytes (statement HeadBack, promises P5.1 to P5.3), the table of flags being what the program's text lays.
-/
import Derived.Test.YthdcjcdgddejbaaDoorHeadOpen
import Derived.Deep.RegionHeld3
import Derived.Deep.MidRow
namespace Go.Proofs.YthdcjcdgddejbaaDoor.headBack
open Go.ChangeShapes Go.WideShapes Go.ChangeAt Go.RowKit
set_option linter.unusedVariables false


theorem range_of {V : World} {b : Nat} {t : TypeId} {cs : Array Value} (h : Blk V b t cs) : V.rangeAt b 0 cs.toList := fun j v hj => by
  rw [Nat.zero_add, Blk.cell h j]; simpa using hj

set_option maxHeartbeats 4000000 in
set_option maxRecDepth 100000 in
theorem walk (x : Sg) (hx : x.Ok) (zd : x.data.size ≤ 140737488351232) (a d c : Int) (ha : 0 ≤ a ∧ a ≤ 255) (hd : 0 ≤ d ∧ d ≤ 65535) (hc : 0 ≤ c ∧ c ≤ 255) (raw : ByteArray) (zr : raw.size ≤ 140737488351232) (w : World) (ht : Tbl w) :
    Calls Tryd.prog 5 #[.agg (segv x), .agg #[.int .u8 a, .int .u16 d, .int .u8 c], .string raw] w fun e w' => e = .returned (.bool true) ∧ Below w.heap.size w w' := by
  have HX := Lib.hid hx
  have HA := Lib.hid ha
  have HD := Lib.hid hd
  have HC := Lib.hid hc
  have S1' := Blk.new w 25 (segv x)
  have S2' := Blk.new (w.alloc (.cells (segv x) 25)) 27 #[.int .u8 a, .int .u16 d, .int .u8 c]
  rw [World.size_alloc] at S2'
  have HS1 := Lib.hid (S1'.alloc (.cells #[.int .u8 a, .int .u16 d, .int .u8 c] 27))
  have HS2 := Lib.hid S2'
  have HT := Lib.hid ((ht.alloc (.cells (segv x) 25)).alloc (.cells #[.int .u8 a, .int .u16 d, .int .u8 c] 27))
  have HB := Lib.hid (((Below.refl _ w).alloc (Nat.le_refl _) (.cells (segv x) 25)).alloc (by simp) (.cells #[.int .u8 a, .int .u16 d, .int .u8 c] 27))
  have POS := Lib.hid ht.lt
  clear hx ha hd hc ht S1' S2' zd
  go_enter Tryd.func5, Tryd.ntmps5
  go_wp2_with fail
  refine (works_any _ HT.out).mono ?_
  rintro e W1 ⟨rfl, b1w⟩
  have HS1a := Lib.hid (HS1.out.below b1w HS1.out.lt)
  have HS2a := Lib.hid (HS2.out.below b1w HS2.out.lt)
  have HT1 := Lib.hid (HT.out.below b1w)
  have HB1 := Lib.hid (below_then HB.out b1w)
  clear b1w HS1 HS2 HT HB
  go_wp2
  go_region_held3 (fun V => V.cell? ⟨w.heap.size, 0, none⟩ = some (.int .i64 x.path) ∧ V.cell? ⟨w.heap.size, 1, none⟩ = some (.int .u16 x.src) ∧ V.cell? ⟨w.heap.size, 2, none⟩ = some (.int .u16 x.dst) ∧ V.cell? ⟨w.heap.size, 3, none⟩ = some (.int .u32 x.seq) ∧ V.cell? ⟨w.heap.size, 4, none⟩ = some (.int .u32 x.ack) ∧ V.cell? ⟨w.heap.size, 5, none⟩ = some (.bool x.syn) ∧ V.cell? ⟨w.heap.size, 6, none⟩ = some (.bool x.ackOn) ∧ V.cell? ⟨w.heap.size, 7, none⟩ = some (.bool x.fin) ∧ V.cell? ⟨w.heap.size, 8, none⟩ = some (.bool x.rst) ∧ V.cell? ⟨w.heap.size, 9, none⟩ = some (.int .u16 x.win) ∧ V.cell? ⟨w.heap.size, 10, none⟩ = some (.string x.area) ∧ V.cell? ⟨w.heap.size, 11, none⟩ = some (.string x.data) ∧ V.cell? ⟨w.heap.size + 1, 0, none⟩ = some (.int .u8 a) ∧ V.cell? ⟨w.heap.size + 1, 1, none⟩ = some (.int .u16 d) ∧ V.cell? ⟨w.heap.size + 1, 2, none⟩ = some (.int .u8 c))
    (first | exact ⟨HS1a.out.cell 0, HS1a.out.cell 1, HS1a.out.cell 2, HS1a.out.cell 3, HS1a.out.cell 4, HS1a.out.cell 5, HS1a.out.cell 6, HS1a.out.cell 7, HS1a.out.cell 8, HS1a.out.cell 9, HS1a.out.cell 10, HS1a.out.cell 11, HS2a.out.cell 0, HS2a.out.cell 1, HS2a.out.cell 2⟩ | exact ⟨HS1b.out.cell 0, HS1b.out.cell 1, HS1b.out.cell 2, HS1b.out.cell 3, HS1b.out.cell 4, HS1b.out.cell 5, HS1b.out.cell 6, HS1b.out.cell 7, HS1b.out.cell 8, HS1b.out.cell 9, HS1b.out.cell 10, HS1b.out.cell 11, HS2b.out.cell 0, HS2b.out.cell 1, HS2b.out.cell 2⟩)
    (first
      | (go_at_call 8; refine (Filled_any a d c x _ HA.out.1 HA.out.2 HD.out.1 HD.out.2 HC.out.1 HC.out.2).mono ?_; rintro e W2 ⟨A, D, zA, zD, rfl, b2⟩; have HS1b := Lib.hid (Blk.below HS1a.out.drew b2 HS1a.out.drew.lt); have HS2b := Lib.hid (Blk.below HS2a.out.drew b2 HS2a.out.drew.lt); have HT2 := Lib.hid ((HT1.out.drewN 1).below b2); have HB2 := Lib.hid (below_then HB1.out.drew b2); have ZA := Lib.hid zA; have ZD := Lib.hid zD; clear b2 zA zD))
  obtain ⟨y, hy⟩ : ∃ y : Sg, y = { x with area := A, data := D } := ⟨_, rfl⟩
  rw [← hy]
  have i0 : ∀ W, (Instr.index 29 (.agg #[.int .i64 x.path, .int .u16 x.src, .int .u16 x.dst, .int .u32 x.seq, .int .u32 x.ack, .bool x.syn, .bool x.ackOn, .bool x.fin, .bool x.rst, .int .u16 x.win, .string x.area, .string x.data, .int .i64 x.path, .int .u16 x.src, .int .u16 x.dst, .int .u32 x.seq, .int .u32 x.ack, .bool x.syn, .bool x.ackOn, .bool x.fin, .bool x.rst, .int .u16 x.win, .string A, .string D]) (.int .i64 0)).run Tryd.prog W = .ok (.agg (segv x)) W := fun _ => by kernel_rfl
  have i1 : ∀ W, (Instr.index 29 (.agg #[.int .i64 x.path, .int .u16 x.src, .int .u16 x.dst, .int .u32 x.seq, .int .u32 x.ack, .bool x.syn, .bool x.ackOn, .bool x.fin, .bool x.rst, .int .u16 x.win, .string x.area, .string x.data, .int .i64 x.path, .int .u16 x.src, .int .u16 x.dst, .int .u32 x.seq, .int .u32 x.ack, .bool x.syn, .bool x.ackOn, .bool x.fin, .bool x.rst, .int .u16 x.win, .string A, .string D]) (.int .i64 1)).run Tryd.prog W = .ok (.agg (segv y)) W := fun _ => by rw [hy]; kernel_rfl
  obtain ⟨PA, hPA⟩ : ∃ PA : Value, PA = .agg #[.int .i64 x.path, .int .u16 x.src, .int .u16 x.dst, .int .u32 x.seq, .int .u32 x.ack, .bool x.syn, .bool x.ackOn, .bool x.fin, .bool x.rst, .int .u16 x.win, .string x.area, .string x.data, .int .i64 x.path, .int .u16 x.src, .int .u16 x.dst, .int .u32 x.seq, .int .u32 x.ack, .bool x.syn, .bool x.ackOn, .bool x.fin, .bool x.rst, .int .u16 x.win, .string A, .string D] := ⟨_, rfl⟩
  rw [← hPA] at i0 i1 ⊢
  have HOKX := Lib.hid HX.out
  have HOKY := Lib.hid (show y.Ok by rw [hy]; exact ⟨HX.out.src, HX.out.dst, HX.out.seq, HX.out.ack, HX.out.win, by show A.size ≤ _; have := ZA.out; omega, by show D.size ≤ _; have := ZD.out; omega⟩)
  have HPOS := Lib.hid (show 0 < w.heap.size from POS.out)
  clear hPA hy HS1a HS2a HT1 HB1 HS1b HS2b ZA ZD HA HD HC HX
  go_wp2
  go_loopw [24] (fun i wr => ∃ j : Nat, j ≤ 2 ∧ i = .int .i64 (j : Int) ∧ Below w.heap.size w wr ∧ Tbl wr) (fun i _ => 2 - (intOf i).toNat)
  case atStart => exact ⟨0, by decide, rfl, HB2.out, HT2.out⟩
  case round =>
    obtain ⟨j, hj, rfl, hBr', hTr'⟩ := hrel
    have hBr := Lib.hid hBr'
    have hTr := Lib.hid hTr'
    have GEY : w.heap.size ≤ wr.heap.size := hBr'.size
    clear hBr' hTr'
    obtain rfl | rfl | rfl : j = 0 ∨ j = 1 ∨ j = 2 := by omega
    · clear i1
      go_wp2_with (first
        | refine wpList_store_row rfl 25 _ _ rfl wr.heap.size (segv x) rfl rfl 25 _ (heap_alloc_new wr _) seg_size rfl (segv_one _) ?_
        | refine wpList_load_row rfl 25 _ rfl wr.heap.size rfl 25 (segv x) (0, 0) _ (setRow_heap _ wr.heap.size _ (segv x) _ _ (heap_alloc_new wr _)) Tryd.underlying25 rfl seg_size ?_)
      rw [World.setRow_alloc_new]
      obtain ⟨V1, hV1⟩ : ∃ V1, V1 = wr.alloc (.cells (segv x) 25) := ⟨_, rfl⟩
      obtain ⟨g, hg⟩ : ∃ g, g = wr.heap.size := ⟨_, rfl⟩
      have X1 := Lib.hid (show Blk V1 g 25 (segv x) by rw [hV1, hg]; exact Blk.new _ _ _)
      have T1 := Lib.hid (show Tbl V1 by rw [hV1]; exact hTr.out.alloc _)
      have B1 := Lib.hid (show Below w.heap.size w V1 by rw [hV1]; exact hBr.out.alloc hBr.out.size _)
      have hge : w.heap.size ≤ g := by rw [hg]; exact GEY
      rw [← hV1, ← hg]
      clear hV1 hg GEY
      refine (Lay_any x _ HOKX.out T1.out).mono ?_
      rintro e V2 ⟨rfl, b2⟩
      have X2 := Lib.hid (X1.out.below b2 X1.out.lt)
      have T2 := Lib.hid (T1.out.below b2)
      have B2 := Lib.hid (below_then B1.out b2)
      clear b2 X1 T1 B1
      cases hf : x.fits
      · rw [x.lay_f hf]
        have c10 : V2.cell? ⟨g, 10, none⟩ = some (.string x.area) := X2.out.cell 10
        have c11 : V2.cell? ⟨g, 11, none⟩ = some (.string x.data) := X2.out.cell 11
        rcases x.fits_f hf with h | ⟨h, k⟩ | ⟨h, k, l⟩
        · have e1 : decide ((x.area.size : Int) ≤ 40) = false := by simp; omega
          clear hf h
          go_wp2
          go_roundw
          case rel => exact ⟨1, by decide, rfl, B2.out, T2.out⟩
          case measure => simp [intOf]
        · have e1 : decide ((x.area.size : Int) ≤ 40) = true := by simp; omega
          have e2 : ((x.area.size : Int) % 4 == 0) = false := by simp; omega
          clear hf h k
          go_wp2
          go_roundw
          case rel => exact ⟨1, by decide, rfl, B2.out, T2.out⟩
          case measure => simp [intOf]
        · have e1 : decide ((x.area.size : Int) ≤ 40) = true := by simp; omega
          have e2 : ((x.area.size : Int) % 4 == 0) = true := by simp; omega
          have e3 : decide ((x.data.size : Int) ≤ 1024) = false := by simp; omega
          clear hf h k l
          go_wp2
          go_roundw
          case rel => exact ⟨1, by decide, rfl, B2.out, T2.out⟩
          case measure => simp [intOf]
      · rw [x.lay_t hf]
        obtain ⟨k1, k2, k3⟩ := x.fits_t hf
        obtain ⟨lp1, lp2⟩ := laid_parsed x HOKX.out k1 k2 k3
        obtain ⟨t, htt⟩ : ∃ t, t = txt x.bytes := ⟨_, rfl⟩
        have htsz : t.size = 20 + x.area.size + x.data.size := by rw [htt, txt_size, x.bytes_length]
        obtain ⟨z, hz⟩ : ∃ z : Sg, z = { x with path := 0 } := ⟨_, rfl⟩
        have hpv : parseV t.data.toList = .tuple #[.agg (segv z), .int .i64 0] := by
          rw [htt]
          show parseV x.bytes = _
          rw [parseV_t _ lp1, lp2, hz]
        rw [← htt]
        have HPV := Lib.hid hpv
        have HZ := Lib.hid hz
        have ts : (t.size : Int) = 20 + (x.area.size : Int) + (x.data.size : Int) := by omega
        have q1 : (x.area.size : Int) ≤ 40 := by omega
        have q2 : (x.data.size : Int) ≤ 1024 := by omega
        have q3 : t.size ≤ 4611686018427387904 := by omega
        have TS := Lib.hid ts
        clear hf htt htsz hz hpv lp1 lp2 k1 k2 k3 ts
        go_wp2_with fail
        refine (Parse_any t _ q3 T2.out).mono ?_
        rintro e V3 ⟨rfl, b3⟩
        rw [HPV.out]
        have X3 := Lib.hid (X2.out.below b3 X2.out.lt)
        have T3 := Lib.hid (T2.out.below b3)
        have B3 := Lib.hid (below_then B2.out b3)
        have GE := Lib.hid hge
        clear b3 X2 T2 B2
        have B4' : Below V3.heap.size V3 ((V3.alloc (.cells #[.int .i64 0, .int .u16 0, .int .u16 0, .int .u32 0, .int .u32 0, .bool false, .bool false, .bool false, .bool false, .int .u16 0, .string ⟨#[]⟩, .string ⟨#[]⟩] 25)).setRow V3.heap.size (segv z)) := below_setRow ((Below.refl _ V3).alloc (Nat.le_refl _) _) (Nat.le_refl _) _
        have XG4 := X3.out.below B4' X3.out.lt
        have XH4 : Blk ((V3.alloc (.cells #[.int .i64 0, .int .u16 0, .int .u16 0, .int .u32 0, .int .u32 0, .bool false, .bool false, .bool false, .bool false, .int .u16 0, .string ⟨#[]⟩, .string ⟨#[]⟩] 25)).setRow V3.heap.size (segv z)) V3.heap.size 25 (segv z) := setRow_heap _ V3.heap.size _ (segv z) _ _ (heap_alloc_new V3 _)
        have c0 : ((V3.alloc (.cells #[.int .i64 0, .int .u16 0, .int .u16 0, .int .u32 0, .int .u32 0, .bool false, .bool false, .bool false, .bool false, .int .u16 0, .string ⟨#[]⟩, .string ⟨#[]⟩] 25)).setRow V3.heap.size (segv z)).cell? ⟨g, 0, none⟩ = some (.int .i64 x.path) := XG4.cell 0
        have f0 : ((V3.alloc (.cells #[.int .i64 0, .int .u16 0, .int .u16 0, .int .u32 0, .int .u32 0, .bool false, .bool false, .bool false, .bool false, .int .u16 0, .string ⟨#[]⟩, .string ⟨#[]⟩] 25)).setRow V3.heap.size (segv z)).frozen? ⟨g, 0, none⟩ = false := XG4.frozen 0
        have c10 : ((V3.alloc (.cells #[.int .i64 0, .int .u16 0, .int .u16 0, .int .u32 0, .int .u32 0, .bool false, .bool false, .bool false, .bool false, .int .u16 0, .string ⟨#[]⟩, .string ⟨#[]⟩] 25)).setRow V3.heap.size (segv z)).cell? ⟨g, 10, none⟩ = some (.string x.area) := XG4.cell 10
        have c11 : ((V3.alloc (.cells #[.int .i64 0, .int .u16 0, .int .u16 0, .int .u32 0, .int .u32 0, .bool false, .bool false, .bool false, .bool false, .int .u16 0, .string ⟨#[]⟩, .string ⟨#[]⟩] 25)).setRow V3.heap.size (segv z)).cell? ⟨g, 11, none⟩ = some (.string x.data) := XG4.cell 11
        have XG5 := Lib.hid (show Blk (((V3.alloc (.cells #[.int .i64 0, .int .u16 0, .int .u16 0, .int .u32 0, .int .u32 0, .bool false, .bool false, .bool false, .bool false, .int .u16 0, .string ⟨#[]⟩, .string ⟨#[]⟩] 25)).setRow V3.heap.size (segv z)).setCell ⟨g, 0, none⟩ (.int .i64 0)) g 25 (segv z) by
          have q := XG4.set_ 0 (.int .i64 0)
          rw [HZ.out] at q ⊢
          exact q)
        have XH5 := Lib.hid (XH4.setO (p := ⟨g, 0, none⟩) (by have := X3.out.lt; show g ≠ _; omega) (.int .i64 0))
        have B5 := Lib.hid ((below_then B3.out B4').setCell (p := ⟨g, 0, none⟩) GE.out (.int .i64 0))
        have T5 := Lib.hid ((T3.out.below B4').under ((Below.refl w.heap.size ((V3.alloc (.cells #[.int .i64 0, .int .u16 0, .int .u16 0, .int .u32 0, .int .u32 0, .bool false, .bool false, .bool false, .bool false, .int .u16 0, .string ⟨#[]⟩, .string ⟨#[]⟩] 25)).setRow V3.heap.size (segv z))).setCell (p := ⟨g, 0, none⟩) GE.out (.int .i64 0)) HPOS.out)
        clear B4' XG4 XH4
        have ts := TS.out
        go_wp2_with (first
          | refine wpList_store_row rfl 25 _ _ rfl V3.heap.size (segv z) rfl rfl 25 _ (heap_alloc_new V3 _) seg_size rfl (segv_one _) ?_
          | refine wpList_load_row_w (by rfl) 25 _ rfl V3.heap.size rfl 25 (segv z) (0, 0) _ XH5.out Tryd.underlying25 rfl seg_size ?_
          | refine wpList_load_row_w (by rfl) 25 _ rfl g rfl 25 (segv z) (0, 0) _ XG5.out Tryd.underlying25 rfl seg_size ?_)
        go_roundw
        case rel => exact ⟨1, by decide, rfl, B5.out, T5.out⟩
        case measure => simp [intOf]
    · clear i0
      go_wp2_with (first
        | refine wpList_store_row rfl 25 _ _ rfl wr.heap.size (segv y) rfl rfl 25 _ (heap_alloc_new wr _) seg_size rfl (segv_one _) ?_
        | refine wpList_load_row rfl 25 _ rfl wr.heap.size rfl 25 (segv y) (0, 0) _ (setRow_heap _ wr.heap.size _ (segv y) _ _ (heap_alloc_new wr _)) Tryd.underlying25 rfl seg_size ?_)
      rw [World.setRow_alloc_new]
      obtain ⟨V1, hV1⟩ : ∃ V1, V1 = wr.alloc (.cells (segv y) 25) := ⟨_, rfl⟩
      obtain ⟨g, hg⟩ : ∃ g, g = wr.heap.size := ⟨_, rfl⟩
      have X1 := Lib.hid (show Blk V1 g 25 (segv y) by rw [hV1, hg]; exact Blk.new _ _ _)
      have T1 := Lib.hid (show Tbl V1 by rw [hV1]; exact hTr.out.alloc _)
      have B1 := Lib.hid (show Below w.heap.size w V1 by rw [hV1]; exact hBr.out.alloc hBr.out.size _)
      have hge : w.heap.size ≤ g := by rw [hg]; exact GEY
      rw [← hV1, ← hg]
      clear hV1 hg GEY
      refine (Lay_any y _ HOKY.out T1.out).mono ?_
      rintro e V2 ⟨rfl, b2⟩
      have X2 := Lib.hid (X1.out.below b2 X1.out.lt)
      have T2 := Lib.hid (T1.out.below b2)
      have B2 := Lib.hid (below_then B1.out b2)
      clear b2 X1 T1 B1
      cases hf : y.fits
      · rw [y.lay_f hf]
        have c10 : V2.cell? ⟨g, 10, none⟩ = some (.string y.area) := X2.out.cell 10
        have c11 : V2.cell? ⟨g, 11, none⟩ = some (.string y.data) := X2.out.cell 11
        rcases y.fits_f hf with h | ⟨h, k⟩ | ⟨h, k, l⟩
        · have e1 : decide ((y.area.size : Int) ≤ 40) = false := by simp; omega
          clear hf h
          go_wp2
          go_roundw
          case rel => exact ⟨2, by decide, rfl, B2.out, T2.out⟩
          case measure => simp [intOf]
        · have e1 : decide ((y.area.size : Int) ≤ 40) = true := by simp; omega
          have e2 : ((y.area.size : Int) % 4 == 0) = false := by simp; omega
          clear hf h k
          go_wp2
          go_roundw
          case rel => exact ⟨2, by decide, rfl, B2.out, T2.out⟩
          case measure => simp [intOf]
        · have e1 : decide ((y.area.size : Int) ≤ 40) = true := by simp; omega
          have e2 : ((y.area.size : Int) % 4 == 0) = true := by simp; omega
          have e3 : decide ((y.data.size : Int) ≤ 1024) = false := by simp; omega
          clear hf h k l
          go_wp2
          go_roundw
          case rel => exact ⟨2, by decide, rfl, B2.out, T2.out⟩
          case measure => simp [intOf]
      · rw [y.lay_t hf]
        obtain ⟨k1, k2, k3⟩ := y.fits_t hf
        obtain ⟨lp1, lp2⟩ := laid_parsed y HOKY.out k1 k2 k3
        obtain ⟨t, htt⟩ : ∃ t, t = txt y.bytes := ⟨_, rfl⟩
        have htsz : t.size = 20 + y.area.size + y.data.size := by rw [htt, txt_size, y.bytes_length]
        obtain ⟨z, hz⟩ : ∃ z : Sg, z = { y with path := 0 } := ⟨_, rfl⟩
        have hpv : parseV t.data.toList = .tuple #[.agg (segv z), .int .i64 0] := by
          rw [htt]
          show parseV y.bytes = _
          rw [parseV_t _ lp1, lp2, hz]
        rw [← htt]
        have HPV := Lib.hid hpv
        have HZ := Lib.hid hz
        have ts : (t.size : Int) = 20 + (y.area.size : Int) + (y.data.size : Int) := by omega
        have q1 : (y.area.size : Int) ≤ 40 := by omega
        have q2 : (y.data.size : Int) ≤ 1024 := by omega
        have q3 : t.size ≤ 4611686018427387904 := by omega
        have TS := Lib.hid ts
        clear hf htt htsz hz hpv lp1 lp2 k1 k2 k3 ts
        go_wp2_with fail
        refine (Parse_any t _ q3 T2.out).mono ?_
        rintro e V3 ⟨rfl, b3⟩
        rw [HPV.out]
        have X3 := Lib.hid (X2.out.below b3 X2.out.lt)
        have T3 := Lib.hid (T2.out.below b3)
        have B3 := Lib.hid (below_then B2.out b3)
        have GE := Lib.hid hge
        clear b3 X2 T2 B2
        have B4' : Below V3.heap.size V3 ((V3.alloc (.cells #[.int .i64 0, .int .u16 0, .int .u16 0, .int .u32 0, .int .u32 0, .bool false, .bool false, .bool false, .bool false, .int .u16 0, .string ⟨#[]⟩, .string ⟨#[]⟩] 25)).setRow V3.heap.size (segv z)) := below_setRow ((Below.refl _ V3).alloc (Nat.le_refl _) _) (Nat.le_refl _) _
        have XG4 := X3.out.below B4' X3.out.lt
        have XH4 : Blk ((V3.alloc (.cells #[.int .i64 0, .int .u16 0, .int .u16 0, .int .u32 0, .int .u32 0, .bool false, .bool false, .bool false, .bool false, .int .u16 0, .string ⟨#[]⟩, .string ⟨#[]⟩] 25)).setRow V3.heap.size (segv z)) V3.heap.size 25 (segv z) := setRow_heap _ V3.heap.size _ (segv z) _ _ (heap_alloc_new V3 _)
        have c0 : ((V3.alloc (.cells #[.int .i64 0, .int .u16 0, .int .u16 0, .int .u32 0, .int .u32 0, .bool false, .bool false, .bool false, .bool false, .int .u16 0, .string ⟨#[]⟩, .string ⟨#[]⟩] 25)).setRow V3.heap.size (segv z)).cell? ⟨g, 0, none⟩ = some (.int .i64 y.path) := XG4.cell 0
        have f0 : ((V3.alloc (.cells #[.int .i64 0, .int .u16 0, .int .u16 0, .int .u32 0, .int .u32 0, .bool false, .bool false, .bool false, .bool false, .int .u16 0, .string ⟨#[]⟩, .string ⟨#[]⟩] 25)).setRow V3.heap.size (segv z)).frozen? ⟨g, 0, none⟩ = false := XG4.frozen 0
        have c10 : ((V3.alloc (.cells #[.int .i64 0, .int .u16 0, .int .u16 0, .int .u32 0, .int .u32 0, .bool false, .bool false, .bool false, .bool false, .int .u16 0, .string ⟨#[]⟩, .string ⟨#[]⟩] 25)).setRow V3.heap.size (segv z)).cell? ⟨g, 10, none⟩ = some (.string y.area) := XG4.cell 10
        have c11 : ((V3.alloc (.cells #[.int .i64 0, .int .u16 0, .int .u16 0, .int .u32 0, .int .u32 0, .bool false, .bool false, .bool false, .bool false, .int .u16 0, .string ⟨#[]⟩, .string ⟨#[]⟩] 25)).setRow V3.heap.size (segv z)).cell? ⟨g, 11, none⟩ = some (.string y.data) := XG4.cell 11
        have XG5 := Lib.hid (show Blk (((V3.alloc (.cells #[.int .i64 0, .int .u16 0, .int .u16 0, .int .u32 0, .int .u32 0, .bool false, .bool false, .bool false, .bool false, .int .u16 0, .string ⟨#[]⟩, .string ⟨#[]⟩] 25)).setRow V3.heap.size (segv z)).setCell ⟨g, 0, none⟩ (.int .i64 0)) g 25 (segv z) by
          have q := XG4.set_ 0 (.int .i64 0)
          rw [HZ.out] at q ⊢
          exact q)
        have XH5 := Lib.hid (XH4.setO (p := ⟨g, 0, none⟩) (by have := X3.out.lt; show g ≠ _; omega) (.int .i64 0))
        have B5 := Lib.hid ((below_then B3.out B4').setCell (p := ⟨g, 0, none⟩) GE.out (.int .i64 0))
        have T5 := Lib.hid ((T3.out.below B4').under ((Below.refl w.heap.size ((V3.alloc (.cells #[.int .i64 0, .int .u16 0, .int .u16 0, .int .u32 0, .int .u32 0, .bool false, .bool false, .bool false, .bool false, .int .u16 0, .string ⟨#[]⟩, .string ⟨#[]⟩] 25)).setRow V3.heap.size (segv z))).setCell (p := ⟨g, 0, none⟩) GE.out (.int .i64 0)) HPOS.out)
        clear B4' XG4 XH4
        have ts := TS.out
        go_wp2_with (first
          | refine wpList_store_row rfl 25 _ _ rfl V3.heap.size (segv z) rfl rfl 25 _ (heap_alloc_new V3 _) seg_size rfl (segv_one _) ?_
          | refine wpList_load_row_w (by rfl) 25 _ rfl V3.heap.size rfl 25 (segv z) (0, 0) _ XH5.out Tryd.underlying25 rfl seg_size ?_
          | refine wpList_load_row_w (by rfl) 25 _ rfl g rfl 25 (segv z) (0, 0) _ XG5.out Tryd.underlying25 rfl seg_size ?_)
        go_roundw
        case rel => exact ⟨2, by decide, rfl, B5.out, T5.out⟩
        case measure => simp [intOf]
    · clear i0 i1
      obtain ⟨q, hq⟩ : ∃ q, q = raw.data.toList := ⟨_, rfl⟩
      have hql : q.length = raw.size := by rw [hq]; exact len_data raw
      by_cases hcode : code q = 0
      · obtain ⟨pl1, pl2, pl3⟩ := parsed_laid q hcode
        have hok := segs_ok q (by rw [hql]; omega)
        have h20 := (code_zero q hcode).1
        have hpv := parseV_t q hcode
        obtain ⟨z, hz⟩ : ∃ z, z = segs q := ⟨_, rfl⟩
        rw [← hz] at pl1 pl2 pl3 hok hpv
        obtain ⟨t, ht⟩ : ∃ t, t = txt z.bytes := ⟨_, rfl⟩
        have htz : (t.size : Int) = (raw.size : Int) := by rw [ht, txt_size, pl2, hql]
        have hr18 : decide ((raw.size : Int) < 18) = false := by simp; omega
        rw [hq] at hpv
        have HPV := Lib.hid hpv
        have HOKZ := Lib.hid hok
        have HLT := Lib.hid (z.lay_t pl1)
        have HTT := Lib.hid ht
        have HZR : raw.size ≤ 4611686018427387904 := by omega
        have HQQ := Lib.hid hq
        have HTZ := Lib.hid htz
        have H20 := Lib.hid (show 20 ≤ raw.size by omega)
        have HPL := Lib.hid pl3
        clear hcode hz hok h20 hpv pl1 pl2 pl3 ht htz hql hq
        go_wp2_with fail
        refine (Parse_any raw _ HZR hTr.out).mono ?_
        rintro e V1 ⟨rfl, b1⟩
        rw [HPV.out]
        have T1 := Lib.hid (hTr.out.below b1)
        have B1 := Lib.hid (below_then hBr.out b1)
        clear b1
        go_wp2_with (first
          | refine wpList_store_row rfl 25 _ _ rfl V1.heap.size (segv z) rfl rfl 25 _ (heap_alloc_new V1 _) seg_size rfl (segv_one _) ?_
          | refine wpList_load_row rfl 25 _ rfl V1.heap.size rfl 25 (segv z) (0, 0) _ (setRow_heap _ V1.heap.size _ (segv z) _ _ (heap_alloc_new V1 _)) Tryd.underlying25 rfl seg_size ?_)
        rw [World.setRow_alloc_new]
        refine (Lay_any z _ HOKZ.out (T1.out.alloc _)).mono ?_
        rintro e V2 ⟨rfl, b2⟩
        rw [HLT.out, ← HTT.out]
        have B2 := Lib.hid (below_then (B1.out.alloc B1.out.size _) b2)
        clear b2
        have htz := HTZ.out
        have r0 : (18 : Int) ≤ (raw.size : Int) := by have := H20.out; omega
        have r1 : (16 : Int) ≤ (raw.size : Int) := by omega
        have r2 : (18 : Int) ≤ (t.size : Int) := by omega
        have r3 : (16 : Int) ≤ (t.size : Int) := by omega
        rcases HPL.out with heq | ⟨p1, p2, p3, p4⟩
        · have htr : t = raw := by rw [HTT.out, heq, HQQ.out]
          clear htz r0 r1 r2 r3 HTT HTZ HPL HLT heq
          subst htr
          go_wp2
          go_quiet (fail)
          go_wp2
          go_ret; exact ⟨rfl, below_drewN B2.out _⟩
        · have x1 : raw.extract 16 18 = ⟨#[255, 255]⟩ := by
            apply txt_ext
            rw [ByteArray.data_extract, Array.toList_extract, List.extract_eq_take_drop, ← HQQ.out]
            exact p1
          have x2 : t.extract 16 18 = ⟨#[0, 0]⟩ := by
            apply txt_ext
            rw [ByteArray.data_extract, Array.toList_extract, List.extract_eq_take_drop, HTT.out]
            exact p2
          obtain ⟨P, hP⟩ : ∃ P, P = raw.extract 0 16 := ⟨_, rfl⟩
          have x3 : t.extract 0 16 = P := by
            rw [hP]; apply txt_ext
            rw [ByteArray.data_extract, Array.toList_extract, List.extract_eq_take_drop, ByteArray.data_extract, Array.toList_extract, List.extract_eq_take_drop, HTT.out, ← HQQ.out]
            exact p3
          obtain ⟨Q, hQ⟩ : ∃ Q, Q = raw.extract 18 raw.size := ⟨_, rfl⟩
          have x4 : t.extract 18 t.size = Q := by
            rw [hQ]; apply txt_ext
            rw [ByteArray.data_extract, Array.toList_extract, List.extract_eq_take_drop, ByteArray.data_extract, Array.toList_extract, List.extract_eq_take_drop, HTT.out, ← HQQ.out]
            show (z.bytes.drop 18).take _ = (q.drop 18).take _
            rw [p4, show (txt z.bytes).size = raw.size by rw [← HTT.out]; omega]
          have x5 : t.extract 18 raw.size = Q := by rw [← x4]; congr 1; omega
          have hne : ¬ t = raw := fun e => by rw [e, x1] at x2; exact absurd x2 (by decide)
          have hnl : ¬ t.toList = raw.toList := fun e => hne (txt_ext (by rw [← Go.ByteArray.toList_eq, ← Go.ByteArray.toList_eq]; exact e))
          have hP' := hP.symm
          have hQ' := hQ.symm
          clear hP hQ HTT HTZ HPL HLT HQQ p1 p2 p3 p4
          go_wp2
          go_quiet (fail)
          go_wp2
          go_ret; exact ⟨rfl, below_drewN B2.out _⟩
      · have hpv := parseV_f q (code q) rfl hcode
        obtain ⟨cc, hcc⟩ : ∃ cc, cc = code q := ⟨_, rfl⟩
        rw [← hcc, hq] at hpv
        have cne : (cc != 0) = true := by rw [hcc]; simpa using hcode
        have HPV := Lib.hid hpv
        have HZR : raw.size ≤ 4611686018427387904 := by omega
        clear hcode hpv hcc hq hql
        go_wp2_with fail
        refine (Parse_any raw _ HZR hTr.out).mono ?_
        rintro e V1 ⟨rfl, b1⟩
        rw [HPV.out]
        have B1 := Lib.hid (below_then hBr.out b1)
        clear b1
        go_wp2_with (first
          | refine wpList_store_row rfl 25 _ _ rfl V1.heap.size (segv Sg.zero) rfl rfl 25 _ (heap_alloc_new V1 _) seg_size rfl (segv_one _) ?_
          | refine wpList_load_row rfl 25 _ rfl V1.heap.size rfl 25 #[.int .i64 0, .int .u16 0, .int .u16 0, .int .u32 0, .int .u32 0, .bool false, .bool false, .bool false, .bool false, .int .u16 0, .string ⟨#[]⟩, .string ⟨#[]⟩] (0, 0) _ (setRow_heap _ V1.heap.size _ (segv Sg.zero) _ _ (heap_alloc_new V1 _)) Tryd.underlying25 rfl seg_size ?_)
        go_ret; exact ⟨rfl, below_setRow (B1.out.alloc B1.out.size _) B1.out.size _⟩

set_option maxRecDepth 100000 in
theorem lifted (os : Os) (started : os.Started) (H : Type) (enc : TypeId × Value → H) :
    ReturnsInHanded {} Tryd.checked os 5 .any (fun w args => (Rows.headBackSpec.pre enc Tryd.prog Tryd.f5 [] false w args ∧ laidMetH Tryd.prog laid1 w) ∧ sizedMet enc Tryd.prog Tryd.f5 (OpenSpec.ofChange Rows.headBackSpec) false w args)
      (Rows.headBackSpec.post enc Tryd.prog Tryd.f5 false true false false) := by
  refine returnsInHanded_of_change_and (C := Tryd.checked) (X := fun w _ => laidMetH Tryd.prog laid1 w) (fun _ _ _ hh h => h.of_heap hh) own started (by kernel_rfl) Tryd.func5
    (ChangeSpec.witness_shaped (enc := enc) (C := Tryd.checked) (os := os) (X := fun w _ => laidMetH Tryd.prog laid1 w) false (World.doorLaid Tryd.prog 400 os) #[.agg #[.int .i64 0, .int .u16 0, .int .u16 0, .int .u32 0, .int .u32 0, .bool false, .bool false, .bool false, .bool false, .int .u16 0, .string ByteArray.empty, .string ByteArray.empty], .agg #[.int .u8 0, .int .u16 0, .int .u8 0], .string ByteArray.empty] 8 rfl (World.shaped_of_RefB (by kernel_rfl) (by kernel_rfl)) (by kernel_rfl) (by kernel_rfl) (by kernel_rfl) (door_met os _)) ?_
  intro W base args ds gs before hval0 hW hcnd hsz0 hL _
  have hsz : (DataW.weightsEach Tryd.prog (Tryd.f5.params.toList ++ Rows.headBackSpec.plain.varTypes Tryd.prog) (ds ++ gs)).all (· ≤ reachBytes) = true := hsz0
  have ht := table_of hL
  have hval : ∀ (j : Nat) t v, Tryd.f5.params[j]? = some t → args[j]? = some v → Value.okWide Tryd.prog W .any base t v := hval0
  have hW' := hW
  obtain ⟨p, q, hA0, hV, rfl, hfz, hnd⟩ := hW
  have hA : DataW.TrodAll enc Tryd.prog W 0 (fun _ => true) true Tryd.f5.params.toList args.toList ds p := hA0
  rw [Tryd.params5] at hA hval hsz
  obtain ⟨v0, vs0, d0, ds0, p0, q0, hargs, rfl, rfl, h0, r0⟩ := trodAll_cons hA
  obtain ⟨v1, vs1, d1, ds1, p1, q1, rfl, rfl, rfl, h1, r1⟩ := trodAll_cons r0
  obtain ⟨v2, vs2, d2, ds2, p2, q2, rfl, rfl, rfl, h2, r2⟩ := trodAll_cons r1
  obtain ⟨rfl, rfl, rfl⟩ := trodAll_nil r2
  obtain rfl : args = #[v0, v1, v2] := by cases args; simp_all
  obtain ⟨rfl, rfl⟩ := trodVars_none hV
  have k0 := h0
  have lt0 : ∀ x ∈ p0, x.block < W.heap.size := by obtain ⟨m, hm⟩ := k0; exact DataW.trod_lt m _ _ _ hm
  obtain ⟨x0, rfl, s1, s2, s3, s4, s5, parts, hd0, g10, g11⟩ := open_seg (hval 0 25 v0 rfl rfl) h0
  have k1 := h1
  have lt1 : ∀ x ∈ p1, x.block < W.heap.size := by obtain ⟨m, hm⟩ := k1; exact DataW.trod_lt m _ _ _ hm
  obtain ⟨a1, b1, c1, rfl, ra1, rb1, rc1⟩ := open_shape (hval 1 27 v1 rfl rfl) h1
  obtain ⟨a2, rfl, rfl, rfl, w2⟩ := Go.ChangeMaps.open_string Tryd.underlying9 (hval 2 9 v2 rfl rfl) h2
  have za : x0.area.size ≤ 140737488351232 := by have := agg_string hsz (j := 0) (k := 10) (t := 25) (tk := 9) rfl (by rw [hd0]; rfl) Tryd.underlying25 rfl g10; simpa [reachBytes] using this
  have zd : x0.data.size ≤ 140737488351232 := by have := agg_string hsz (j := 0) (k := 11) (t := 25) (tk := 9) rfl (by rw [hd0]; rfl) Tryd.underlying25 rfl g11; simpa [reachBytes] using this
  have hok : x0.Ok := ⟨s1, s2, s3, s4, s5, by omega, by omega⟩
  have z2 : a2.size ≤ 140737488351232 := by have := sized_string hsz (j := 2) (t := 9) rfl rfl; simpa [reachBytes] using this
  clear hA0 hval0
  simp only [List.append_nil] at hW'
  refine (walk x0 hok zd a1 b1 c1 ra1 rb1 rc1 a2 z2 W ht).mono fun e W' ⟨he, bel⟩ => ?_
  subst he
  exact ⟨_, rfl, _, _, _, [], _, [], hW', trodAll_mk1 (shut_bool Tryd.underlying4 _), (trodAll_cons_mk (Below.trod laidOut (by kernel_rfl) (of_decide_eq_true (by kernel_rfl)) k0 bel lt0) (trodAll_cons_mk (Below.trod laidOut (by kernel_rfl) (of_decide_eq_true (by kernel_rfl)) k1 bel lt1) (trodAll_cons_mk (Go.ChangeMaps.shut_string Tryd.underlying9 w2) trodAll_mk0))), rfl, bel.frame _, fun h => by cases h⟩

theorem over : Rows.HeadBackSaid :=
  OpenClaim.holds_of_wide 5 Tryd.f5 rfl rfl rfl rfl rfl rfl rfl ⟨rfl, rfl, rfl, rfl, rfl⟩ rfl rfl rfl rfl rfl (by kernel_rfl) Tryd.func5 (by kernel_rfl)
    (of_decide_eq_true (by kernel_rfl)) (by unfold Func.isWrapper; first | (rw [if_pos (by decide +kernel)]; kernel_rfl) | (rw [if_neg (by decide +kernel)]; exact ⟨rfl, rfl⟩))
    (fun os started H enc _ => lifted os started H enc)

theorem proved : Rows.HeadBackCardSaid :=
  Claim7.holds_tied_plain_at .later [] [.data] true _ false
    over (fun _ h => by cases h) (by kernel_rfl) (fun _ h => by cases h) headBack_row_tie rfl ⟨rfl, rfl⟩ (by kernel_rfl) rfl
    (fun f fn hf hfn => by
      obtain rfl : f = 5 := Option.some.inj ((show Tryd.prog.funcNamed "plait/plaitlaw05.HeadBack" = some 5 by kernel_rfl).symm.trans hf) |>.symm
      obtain rfl : fn = Tryd.f5 := (Option.some.inj (Tryd.func5.symm.trans hfn)).symm
      exact ⟨by kernel_rfl, fun j t ht => by
        rw [Tryd.params5] at ht
        have hm : t ∈ ([25, 27, 9] : List TypeId) := by simpa using Array.mem_of_getElem? ht
        have hall : (([25, 27, 9] : List TypeId).all fun u => !Tryd.prog.wantsStandIn u) = true := by kernel_rfl
        exact (show Tryd.prog.wantsStandIn t = false by simpa using List.all_eq_true.1 hall t hm)⟩)
    (by kernel_rfl)
#print axioms proved
end Go.Proofs.YthdcjcdgddejbaaDoor.headBack
