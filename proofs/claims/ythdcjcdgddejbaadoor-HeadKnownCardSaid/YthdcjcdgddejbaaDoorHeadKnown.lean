/-
  The chapter's examples, each fault, and which comes first, all flags, the longest segment (statement HeadKnown, promises P5.1, P5.2; closed), the table of flags being what the program's text lays.
-/
import Derived.Test.YthdcjcdgddejbaaDoorHeadKx
import Derived.BigRegion
import Derived.Deep.CutRange
import Derived.Test.YthdcjcdgddejbaaDoorMix
namespace Go.Proofs.YthdcjcdgddejbaaDoor.headKnown
open Go.ChangeShapes Go.WideShapes Go.ChangeAt Go.RowKit
set_option linter.unusedVariables false


set_option maxHeartbeats 4000000 in
set_option maxRecDepth 100000 in
theorem walk (w : World) (ht : Tbl w) :
    Calls Tryd.prog 7 #[] w fun e w' => e = .returned (.bool true) ∧ Below w.heap.size w w' := by
  have HT := Lib.hid ht
  have HPOS := Lib.hid ht.lt
  clear ht
  obtain ⟨S, hS⟩ : ∃ S, S = txt chapB := ⟨_, rfl⟩
  have sz : S.size = 21 := by rw [hS]; rfl
  have HS := Lib.hid hS
  clear hS
  go_enter Tryd.func7, Tryd.ntmps7
  go_wp2_with fail
  refine (chapter_any _).mono ?_
  rintro e W1 ⟨rfl, b1⟩
  rw [← HS.out]
  have HT1 := Lib.hid (HT.out.below b1)
  have HB1 := Lib.hid b1
  clear b1
  have X2 : Blk ((W1.alloc (.cells #[.int .i64 0, .int .u16 0, .int .u16 0, .int .u32 0, .int .u32 0, .bool false, .bool false, .bool false, .bool false, .int .u16 0, .string ⟨#[]⟩, .string ⟨#[]⟩] 25)).setRow W1.heap.size (segv chap)) W1.heap.size 25 (segv chap) := setRow_heap _ W1.heap.size _ (segv chap) _ _ (heap_alloc_new W1 _)
  have B2 : Below w.heap.size w ((W1.alloc (.cells #[.int .i64 0, .int .u16 0, .int .u16 0, .int .u32 0, .int .u32 0, .bool false, .bool false, .bool false, .bool false, .int .u16 0, .string ⟨#[]⟩, .string ⟨#[]⟩] 25)).setRow W1.heap.size (segv chap)) := below_setRow (HB1.out.alloc HB1.out.size _) HB1.out.size _
  have X3 := X2.set_ 5 (.bool false)
  have X4 := X3.set_ 6 (.bool false)
  have X5 := X4.set_ 11 (.string ⟨#[]⟩)
  have B5 := Lib.hid (((B2.setCell (p := ⟨W1.heap.size, 5, none⟩) HB1.out.size (.bool false)).setCell (p := ⟨W1.heap.size, 6, none⟩) HB1.out.size (.bool false)).setCell (p := ⟨W1.heap.size, 11, none⟩) HB1.out.size (.string ⟨#[]⟩))
  have T5 := Lib.hid (HT.out.under B5.out HPOS.out)
  have c5 : _ = some (Value.bool true) := X2.cell 5
  have f5 := X2.frozen 5
  have c6 : _ = some (Value.bool true) := X3.cell 6
  have f6 := X3.frozen 6
  have c11 : _ = some (Value.string ⟨#[97]⟩) := X4.cell 11
  have f11 := X4.frozen 11
  have HX5 := Lib.hid X5
  clear X2 B2 X3 X4 X5
  go_wp2_with (refine wpList_store_row rfl 25 _ _ rfl W1.heap.size (segv chap) rfl rfl 25 #[.int .i64 0, .int .u16 0, .int .u16 0, .int .u32 0, .int .u32 0, .bool false, .bool false, .bool false, .bool false, .int .u16 0, .string ⟨#[]⟩, .string ⟨#[]⟩] ?_ seg_size rfl (segv_one _) ?_; exact heap_alloc_new W1 _)
  obtain ⟨g, hg⟩ : ∃ g, g = W1.heap.size := ⟨_, rfl⟩
  have HG := Lib.hid (show w.heap.size ≤ g by rw [hg]; exact HB1.out.size)
  obtain ⟨W5, hW5⟩ : ∃ W5, W5 = (((((W1.alloc (.cells #[.int .i64 0, .int .u16 0, .int .u16 0, .int .u32 0, .int .u32 0, .bool false, .bool false, .bool false, .bool false, .int .u16 0, .string ⟨#[]⟩, .string ⟨#[]⟩] 25)).setRow W1.heap.size (segv chap)).setCell ⟨W1.heap.size, 5, none⟩ (.bool false)).setCell ⟨W1.heap.size, 6, none⟩ (.bool false)).setCell ⟨W1.heap.size, 11, none⟩ (.string ⟨#[]⟩)) := ⟨_, rfl⟩
  rw [← hW5] at HX5 B5 T5 ⊢
  rw [← hg] at HX5 ⊢
  clear hW5 hg c5 f5 c6 f6 c11 f11 HB1 HT1
  go_loopw [3, 4] (fun x i wr => ∃ j : Nat, j ≤ 16 ∧ i = .int .i64 (j : Int) ∧ x = .string (txt (fb.take j)) ∧ (∃ a b c d, Blk wr g 25 (segv (kx a b c d))) ∧ Below w.heap.size w wr ∧ Tbl wr) (fun _ i _ => 16 - (intOf i).toNat)
  case atStart => exact ⟨0, by decide, rfl, rfl, ⟨false, false, false, false, HX5.out⟩, B5.out, T5.out⟩
  case round =>
    obtain ⟨j, hj, rfl, rfl, ⟨a, b, c, d, hX⟩, hB', hT'⟩ := hrel
    have hB := Lib.hid hB'
    have hT := Lib.hid hT'
    clear hB' hT' HX5 B5 T5
    by_cases hj16 : j < 16
    · have d16 : (j : Int) < 16 := by omega
      have E1 := hX.set_ 7 (.bool ((j : Int) % 2 == 1))
      have E2 := E1.set_ 5 (.bool ((j : Int) / 2 % 2 == 1))
      have E3 := E2.set_ 8 (.bool ((j : Int) / 4 % 2 == 1))
      have E4 := E3.set_ 6 (.bool ((j : Int) / 8 == 1))
      have B4 := Lib.hid ((((hB.out.setCell (p := ⟨g, 7, none⟩) HG.out (.bool ((j : Int) % 2 == 1))).setCell (p := ⟨g, 5, none⟩) HG.out (.bool ((j : Int) / 2 % 2 == 1))).setCell (p := ⟨g, 8, none⟩) HG.out (.bool ((j : Int) / 4 % 2 == 1))).setCell (p := ⟨g, 6, none⟩) HG.out (.bool ((j : Int) / 8 == 1)))
      have T4 := Lib.hid (HT.out.under B4.out HPOS.out)
      have c7 : _ = some (Value.bool a) := hX.cell 7
      have f7 := hX.frozen 7
      have c5 : _ = some (Value.bool b) := E1.cell 5
      have f5 := E1.frozen 5
      have c8 : _ = some (Value.bool c) := E2.cell 8
      have f8 := E2.frozen 8
      have c6 : _ = some (Value.bool d) := E3.cell 6
      have f6 := E3.frozen 6
      obtain ⟨K, hK⟩ : ∃ K : Sg, K = kx ((j : Int) % 2 == 1) ((j : Int) / 2 % 2 == 1) ((j : Int) / 4 % 2 == 1) ((j : Int) / 8 == 1) := ⟨_, rfl⟩
      have X4 := Lib.hid (show Blk ((((wr.setCell ⟨g, 7, none⟩ (.bool ((j : Int) % 2 == 1))).setCell ⟨g, 5, none⟩ (.bool ((j : Int) / 2 % 2 == 1))).setCell ⟨g, 8, none⟩ (.bool ((j : Int) / 4 % 2 == 1))).setCell ⟨g, 6, none⟩ (.bool ((j : Int) / 8 == 1))) g 25 (segv K) by rw [hK]; exact E4)
      have HK := Lib.hid hK
      clear E1 E2 E3 E4 hX hK
      go_wp2_with (refine wpList_load_row rfl 25 _ rfl g rfl 25 (segv K) (0, 0) _ ?_ Tryd.underlying25 rfl seg_size ?_; exact X4.out)
      obtain ⟨V4, hV4⟩ : ∃ V4, V4 = ((((wr.setCell ⟨g, 7, none⟩ (.bool ((j : Int) % 2 == 1))).setCell ⟨g, 5, none⟩ (.bool ((j : Int) / 2 % 2 == 1))).setCell ⟨g, 8, none⟩ (.bool ((j : Int) / 4 % 2 == 1))).setCell ⟨g, 6, none⟩ (.bool ((j : Int) / 8 == 1))) := ⟨_, rfl⟩
      rw [← hV4] at X4 B4 T4 ⊢
      clear hV4 c5 f5 c6 f6 c7 f7 c8 f8
      refine (Lay_any K _ (by rw [HK.out]; exact kx_ok _ _ _ _) T4.out).mono ?_
      rintro e V5 ⟨rfl, b5⟩
      have X5 := Lib.hid (X4.out.below b5 X4.out.lt)
      have T5 := Lib.hid (T4.out.below b5)
      have B5 := Lib.hid (below_then B4.out b5)
      clear b5 X4 T4 B4
      obtain ⟨t, ht⟩ : ∃ t, t = txt K.bytes := ⟨_, rfl⟩
      have hts : t.size = 20 := by rw [ht, HK.out]; exact kx_size _ _ _ _
      have htf : t.extract 13 14 = ⟨#[flb ((j : Int) % 2 == 1) ((j : Int) / 2 % 2 == 1) ((j : Int) / 4 % 2 == 1) ((j : Int) / 8 == 1)]⟩ := by rw [ht, HK.out]; exact kx_flag _ _ _ _
      have hlay : K.lay = .tuple #[.string t, .int .i64 0] := by rw [ht, HK.out]; exact kx_lay _ _ _ _
      have hst := fb_step j hj16
      obtain ⟨Y, hY⟩ : ∃ Y : ByteArray, Y = ⟨#[flb ((j : Int) % 2 == 1) ((j : Int) / 2 % 2 == 1) ((j : Int) / 4 % 2 == 1) ((j : Int) / 8 == 1)]⟩ := ⟨_, rfl⟩
      rw [← hY] at htf hst
      rw [hlay]
      have hYs : Y.size = 1 := by rw [hY]; rfl
      obtain ⟨G, hG⟩ : ∃ G, G = txt (fb.take j) := ⟨_, rfl⟩
      have hGs : G.size ≤ 16 := by rw [hG, txt_size, List.length_take]; exact Nat.le_trans (Nat.min_le_right _ _) (by decide)
      rw [← hG] at hst ⊢
      have HST := Lib.hid hst
      clear hY hst hlay ht hG
      go_wp2
      exact ⟨⟨j + 1, by omega, rfl, by rw [HST.out], ⟨_, _, _, _, by have := X5.out; rw [HK.out] at this; exact this⟩, B5.out, T5.out⟩, by simp [intOf]; omega⟩
    · obtain rfl : j = 16 := by omega
      have hG : txt (fb.take 16) = ⟨#[0, 1, 2, 3, 4, 5, 6, 7, 16, 17, 18, 19, 20, 21, 22, 23]⟩ := by decide +kernel
      rw [hG]
      clear hG hX
      obtain ⟨CM, hCM⟩ : ∃ CM, CM = byv (List.replicate 40 0) := ⟨_, rfl⟩
      obtain ⟨CN, hCN⟩ : ∃ CN, CN = byv (List.replicate 1024 0) := ⟨_, rfl⟩
      obtain ⟨TA, hTA⟩ : ∃ TA, txt (List.replicate 40 0) = TA := ⟨_, rfl⟩
      obtain ⟨TD, hTD⟩ : ∃ TD, txt (List.replicate 1024 0) = TD := ⟨_, rfl⟩
      have mkM : ∀ W, (Instr.makeSlice 45 (.int .i64 40) (.int .i64 40)).run Tryd.prog W = .ok (.slice (some ⟨W.heap.size, 0, none⟩) 40 40) (W.alloc (.cells CM 5)) := fun W => by rw [hCM]; exact make_any W 40 _ rfl (by decide)
      have mkN : ∀ W, (Instr.makeSlice 45 (.int .i64 1024) (.int .i64 1024)).run Tryd.prog W = .ok (.slice (some ⟨W.heap.size, 0, none⟩) 1024 1024) (W.alloc (.cells CN 5)) := fun W => by rw [hCN]; exact make_any W 1024 _ rfl (by decide)
      have convM : ∀ W g, Blk W g 5 CM → (convert 45 9 (.slice (some ⟨g, 0, none⟩) 40 40)).run Tryd.prog W = .ok (.string TA) W := fun W g h => by
        rw [hCM] at h; exact Bt.text h 40 40 (by rw [List.length_replicate]) TA hTA
      have convN : ∀ W g, Blk W g 5 CN → (convert 45 9 (.slice (some ⟨g, 0, none⟩) 1024 1024)).run Tryd.prog W = .ok (.string TD) W := fun W g h => by
        rw [hCN] at h; exact Bt.text h 1024 1024 (by rw [List.length_replicate]) TD hTD
      have cv1 : (convert 45 9 (.slice (some ⟨wr.heap.size, 0, none⟩) 40 40)).run Tryd.prog ((wr.alloc (.cells CM 5)).drew) = .ok (.string TA) ((wr.alloc (.cells CM 5)).drew) := convM _ _ (by have h := Blk.new wr 5 CM; exact h.drew)
      have cv2 : (convert 45 9 (.slice (some ⟨wr.heap.size + 1, 0, none⟩) 40 40)).run Tryd.prog (((wr.alloc (.cells #[.int .i64 0, .int .u16 0, .int .u16 0, .int .u32 0, .int .u32 0, .bool false, .bool false, .bool false, .bool false, .int .u16 0, .string ⟨#[]⟩, .string ⟨#[]⟩] 25)).alloc (.cells CM 5)).drew) = .ok (.string TA) (((wr.alloc (.cells #[.int .i64 0, .int .u16 0, .int .u16 0, .int .u32 0, .int .u32 0, .bool false, .bool false, .bool false, .bool false, .int .u16 0, .string ⟨#[]⟩, .string ⟨#[]⟩] 25)).alloc (.cells CM 5)).drew) := convM _ _ (by have h := Blk.new (wr.alloc (.cells #[.int .i64 0, .int .u16 0, .int .u16 0, .int .u32 0, .int .u32 0, .bool false, .bool false, .bool false, .bool false, .int .u16 0, .string ⟨#[]⟩, .string ⟨#[]⟩] 25)) 5 CM; rw [World.size_alloc] at h; exact h.drew)
      have cv3 : (convert 45 9 (.slice (some ⟨wr.heap.size, 0, none⟩) 40 40)).run Tryd.prog (((wr.alloc (.cells CM 5)).alloc (.cells #[.int .i64 0, .int .u16 0, .int .u16 0, .int .u32 0, .int .u32 0, .bool false, .bool false, .bool false, .bool false, .int .u16 0, .string ⟨#[]⟩, .string ⟨#[]⟩] 25)).drew) = .ok (.string TA) (((wr.alloc (.cells CM 5)).alloc (.cells #[.int .i64 0, .int .u16 0, .int .u16 0, .int .u32 0, .int .u32 0, .bool false, .bool false, .bool false, .bool false, .int .u16 0, .string ⟨#[]⟩, .string ⟨#[]⟩] 25)).drew) := convM _ _ (by have h := Blk.new wr 5 CM; exact (h.alloc _).drew)
      have cv4 : (convert 45 9 (.slice (some ⟨wr.heap.size + 1, 0, none⟩) 40 40)).run Tryd.prog (((wr.alloc (.cells CN 5)).alloc (.cells CM 5)).drew) = .ok (.string TA) (((wr.alloc (.cells CN 5)).alloc (.cells CM 5)).drew) := convM _ _ (by have h := Blk.new (wr.alloc (.cells CN 5)) 5 CM; rw [World.size_alloc] at h; exact h.drew)
      have cv5 : (convert 45 9 (.slice (some ⟨wr.heap.size, 0, none⟩) 40 40)).run Tryd.prog (((wr.alloc (.cells CM 5)).alloc (.cells CN 5)).drew) = .ok (.string TA) (((wr.alloc (.cells CM 5)).alloc (.cells CN 5)).drew) := convM _ _ (by have h := Blk.new wr 5 CM; exact (h.alloc _).drew)
      have cv6 : (convert 45 9 (.slice (some ⟨wr.heap.size + 1 + 1, 0, none⟩) 40 40)).run Tryd.prog ((((wr.alloc (.cells #[.int .i64 0, .int .u16 0, .int .u16 0, .int .u32 0, .int .u32 0, .bool false, .bool false, .bool false, .bool false, .int .u16 0, .string ⟨#[]⟩, .string ⟨#[]⟩] 25)).alloc (.cells CN 5)).alloc (.cells CM 5)).drew) = .ok (.string TA) ((((wr.alloc (.cells #[.int .i64 0, .int .u16 0, .int .u16 0, .int .u32 0, .int .u32 0, .bool false, .bool false, .bool false, .bool false, .int .u16 0, .string ⟨#[]⟩, .string ⟨#[]⟩] 25)).alloc (.cells CN 5)).alloc (.cells CM 5)).drew) := convM _ _ (by have h := Blk.new ((wr.alloc (.cells #[.int .i64 0, .int .u16 0, .int .u16 0, .int .u32 0, .int .u32 0, .bool false, .bool false, .bool false, .bool false, .int .u16 0, .string ⟨#[]⟩, .string ⟨#[]⟩] 25)).alloc (.cells CN 5)) 5 CM; rw [World.size_alloc] at h; rw [World.size_alloc] at h; exact h.drew)
      have cv7 : (convert 45 9 (.slice (some ⟨wr.heap.size + 1, 0, none⟩) 40 40)).run Tryd.prog ((((wr.alloc (.cells #[.int .i64 0, .int .u16 0, .int .u16 0, .int .u32 0, .int .u32 0, .bool false, .bool false, .bool false, .bool false, .int .u16 0, .string ⟨#[]⟩, .string ⟨#[]⟩] 25)).alloc (.cells CM 5)).alloc (.cells CN 5)).drew) = .ok (.string TA) ((((wr.alloc (.cells #[.int .i64 0, .int .u16 0, .int .u16 0, .int .u32 0, .int .u32 0, .bool false, .bool false, .bool false, .bool false, .int .u16 0, .string ⟨#[]⟩, .string ⟨#[]⟩] 25)).alloc (.cells CM 5)).alloc (.cells CN 5)).drew) := convM _ _ (by have h := Blk.new (wr.alloc (.cells #[.int .i64 0, .int .u16 0, .int .u16 0, .int .u32 0, .int .u32 0, .bool false, .bool false, .bool false, .bool false, .int .u16 0, .string ⟨#[]⟩, .string ⟨#[]⟩] 25)) 5 CM; rw [World.size_alloc] at h; exact (h.alloc _).drew)
      have cv8 : (convert 45 9 (.slice (some ⟨wr.heap.size + 1 + 1, 0, none⟩) 40 40)).run Tryd.prog ((((wr.alloc (.cells CN 5)).alloc (.cells #[.int .i64 0, .int .u16 0, .int .u16 0, .int .u32 0, .int .u32 0, .bool false, .bool false, .bool false, .bool false, .int .u16 0, .string ⟨#[]⟩, .string ⟨#[]⟩] 25)).alloc (.cells CM 5)).drew) = .ok (.string TA) ((((wr.alloc (.cells CN 5)).alloc (.cells #[.int .i64 0, .int .u16 0, .int .u16 0, .int .u32 0, .int .u32 0, .bool false, .bool false, .bool false, .bool false, .int .u16 0, .string ⟨#[]⟩, .string ⟨#[]⟩] 25)).alloc (.cells CM 5)).drew) := convM _ _ (by have h := Blk.new ((wr.alloc (.cells CN 5)).alloc (.cells #[.int .i64 0, .int .u16 0, .int .u16 0, .int .u32 0, .int .u32 0, .bool false, .bool false, .bool false, .bool false, .int .u16 0, .string ⟨#[]⟩, .string ⟨#[]⟩] 25)) 5 CM; rw [World.size_alloc] at h; rw [World.size_alloc] at h; exact h.drew)
      have cv9 : (convert 45 9 (.slice (some ⟨wr.heap.size + 1, 0, none⟩) 40 40)).run Tryd.prog ((((wr.alloc (.cells CN 5)).alloc (.cells CM 5)).alloc (.cells #[.int .i64 0, .int .u16 0, .int .u16 0, .int .u32 0, .int .u32 0, .bool false, .bool false, .bool false, .bool false, .int .u16 0, .string ⟨#[]⟩, .string ⟨#[]⟩] 25)).drew) = .ok (.string TA) ((((wr.alloc (.cells CN 5)).alloc (.cells CM 5)).alloc (.cells #[.int .i64 0, .int .u16 0, .int .u16 0, .int .u32 0, .int .u32 0, .bool false, .bool false, .bool false, .bool false, .int .u16 0, .string ⟨#[]⟩, .string ⟨#[]⟩] 25)).drew) := convM _ _ (by have h := Blk.new (wr.alloc (.cells CN 5)) 5 CM; rw [World.size_alloc] at h; exact (h.alloc _).drew)
      have cv10 : (convert 45 9 (.slice (some ⟨wr.heap.size, 0, none⟩) 40 40)).run Tryd.prog ((((wr.alloc (.cells CM 5)).alloc (.cells #[.int .i64 0, .int .u16 0, .int .u16 0, .int .u32 0, .int .u32 0, .bool false, .bool false, .bool false, .bool false, .int .u16 0, .string ⟨#[]⟩, .string ⟨#[]⟩] 25)).alloc (.cells CN 5)).drew) = .ok (.string TA) ((((wr.alloc (.cells CM 5)).alloc (.cells #[.int .i64 0, .int .u16 0, .int .u16 0, .int .u32 0, .int .u32 0, .bool false, .bool false, .bool false, .bool false, .int .u16 0, .string ⟨#[]⟩, .string ⟨#[]⟩] 25)).alloc (.cells CN 5)).drew) := convM _ _ (by have h := Blk.new wr 5 CM; exact ((h.alloc _).alloc _).drew)
      have cv11 : (convert 45 9 (.slice (some ⟨wr.heap.size, 0, none⟩) 40 40)).run Tryd.prog ((((wr.alloc (.cells CM 5)).alloc (.cells CN 5)).alloc (.cells #[.int .i64 0, .int .u16 0, .int .u16 0, .int .u32 0, .int .u32 0, .bool false, .bool false, .bool false, .bool false, .int .u16 0, .string ⟨#[]⟩, .string ⟨#[]⟩] 25)).drew) = .ok (.string TA) ((((wr.alloc (.cells CM 5)).alloc (.cells CN 5)).alloc (.cells #[.int .i64 0, .int .u16 0, .int .u16 0, .int .u32 0, .int .u32 0, .bool false, .bool false, .bool false, .bool false, .int .u16 0, .string ⟨#[]⟩, .string ⟨#[]⟩] 25)).drew) := convM _ _ (by have h := Blk.new wr 5 CM; exact ((h.alloc _).alloc _).drew)
      have cv12 : (convert 45 9 (.slice (some ⟨wr.heap.size, 0, none⟩) 1024 1024)).run Tryd.prog ((wr.alloc (.cells CN 5)).drew) = .ok (.string TD) ((wr.alloc (.cells CN 5)).drew) := convN _ _ (by have h := Blk.new wr 5 CN; exact h.drew)
      have cv13 : (convert 45 9 (.slice (some ⟨wr.heap.size + 1, 0, none⟩) 1024 1024)).run Tryd.prog (((wr.alloc (.cells #[.int .i64 0, .int .u16 0, .int .u16 0, .int .u32 0, .int .u32 0, .bool false, .bool false, .bool false, .bool false, .int .u16 0, .string ⟨#[]⟩, .string ⟨#[]⟩] 25)).alloc (.cells CN 5)).drew) = .ok (.string TD) (((wr.alloc (.cells #[.int .i64 0, .int .u16 0, .int .u16 0, .int .u32 0, .int .u32 0, .bool false, .bool false, .bool false, .bool false, .int .u16 0, .string ⟨#[]⟩, .string ⟨#[]⟩] 25)).alloc (.cells CN 5)).drew) := convN _ _ (by have h := Blk.new (wr.alloc (.cells #[.int .i64 0, .int .u16 0, .int .u16 0, .int .u32 0, .int .u32 0, .bool false, .bool false, .bool false, .bool false, .int .u16 0, .string ⟨#[]⟩, .string ⟨#[]⟩] 25)) 5 CN; rw [World.size_alloc] at h; exact h.drew)
      have cv14 : (convert 45 9 (.slice (some ⟨wr.heap.size, 0, none⟩) 1024 1024)).run Tryd.prog (((wr.alloc (.cells CN 5)).alloc (.cells #[.int .i64 0, .int .u16 0, .int .u16 0, .int .u32 0, .int .u32 0, .bool false, .bool false, .bool false, .bool false, .int .u16 0, .string ⟨#[]⟩, .string ⟨#[]⟩] 25)).drew) = .ok (.string TD) (((wr.alloc (.cells CN 5)).alloc (.cells #[.int .i64 0, .int .u16 0, .int .u16 0, .int .u32 0, .int .u32 0, .bool false, .bool false, .bool false, .bool false, .int .u16 0, .string ⟨#[]⟩, .string ⟨#[]⟩] 25)).drew) := convN _ _ (by have h := Blk.new wr 5 CN; exact (h.alloc _).drew)
      have cv15 : (convert 45 9 (.slice (some ⟨wr.heap.size + 1, 0, none⟩) 1024 1024)).run Tryd.prog (((wr.alloc (.cells CM 5)).alloc (.cells CN 5)).drew) = .ok (.string TD) (((wr.alloc (.cells CM 5)).alloc (.cells CN 5)).drew) := convN _ _ (by have h := Blk.new (wr.alloc (.cells CM 5)) 5 CN; rw [World.size_alloc] at h; exact h.drew)
      have cv16 : (convert 45 9 (.slice (some ⟨wr.heap.size, 0, none⟩) 1024 1024)).run Tryd.prog (((wr.alloc (.cells CN 5)).alloc (.cells CM 5)).drew) = .ok (.string TD) (((wr.alloc (.cells CN 5)).alloc (.cells CM 5)).drew) := convN _ _ (by have h := Blk.new wr 5 CN; exact (h.alloc _).drew)
      have cv17 : (convert 45 9 (.slice (some ⟨wr.heap.size + 1 + 1, 0, none⟩) 1024 1024)).run Tryd.prog ((((wr.alloc (.cells #[.int .i64 0, .int .u16 0, .int .u16 0, .int .u32 0, .int .u32 0, .bool false, .bool false, .bool false, .bool false, .int .u16 0, .string ⟨#[]⟩, .string ⟨#[]⟩] 25)).alloc (.cells CM 5)).alloc (.cells CN 5)).drew) = .ok (.string TD) ((((wr.alloc (.cells #[.int .i64 0, .int .u16 0, .int .u16 0, .int .u32 0, .int .u32 0, .bool false, .bool false, .bool false, .bool false, .int .u16 0, .string ⟨#[]⟩, .string ⟨#[]⟩] 25)).alloc (.cells CM 5)).alloc (.cells CN 5)).drew) := convN _ _ (by have h := Blk.new ((wr.alloc (.cells #[.int .i64 0, .int .u16 0, .int .u16 0, .int .u32 0, .int .u32 0, .bool false, .bool false, .bool false, .bool false, .int .u16 0, .string ⟨#[]⟩, .string ⟨#[]⟩] 25)).alloc (.cells CM 5)) 5 CN; rw [World.size_alloc] at h; rw [World.size_alloc] at h; exact h.drew)
      have cv18 : (convert 45 9 (.slice (some ⟨wr.heap.size + 1, 0, none⟩) 1024 1024)).run Tryd.prog ((((wr.alloc (.cells #[.int .i64 0, .int .u16 0, .int .u16 0, .int .u32 0, .int .u32 0, .bool false, .bool false, .bool false, .bool false, .int .u16 0, .string ⟨#[]⟩, .string ⟨#[]⟩] 25)).alloc (.cells CN 5)).alloc (.cells CM 5)).drew) = .ok (.string TD) ((((wr.alloc (.cells #[.int .i64 0, .int .u16 0, .int .u16 0, .int .u32 0, .int .u32 0, .bool false, .bool false, .bool false, .bool false, .int .u16 0, .string ⟨#[]⟩, .string ⟨#[]⟩] 25)).alloc (.cells CN 5)).alloc (.cells CM 5)).drew) := convN _ _ (by have h := Blk.new (wr.alloc (.cells #[.int .i64 0, .int .u16 0, .int .u16 0, .int .u32 0, .int .u32 0, .bool false, .bool false, .bool false, .bool false, .int .u16 0, .string ⟨#[]⟩, .string ⟨#[]⟩] 25)) 5 CN; rw [World.size_alloc] at h; exact (h.alloc _).drew)
      have cv19 : (convert 45 9 (.slice (some ⟨wr.heap.size + 1 + 1, 0, none⟩) 1024 1024)).run Tryd.prog ((((wr.alloc (.cells CM 5)).alloc (.cells #[.int .i64 0, .int .u16 0, .int .u16 0, .int .u32 0, .int .u32 0, .bool false, .bool false, .bool false, .bool false, .int .u16 0, .string ⟨#[]⟩, .string ⟨#[]⟩] 25)).alloc (.cells CN 5)).drew) = .ok (.string TD) ((((wr.alloc (.cells CM 5)).alloc (.cells #[.int .i64 0, .int .u16 0, .int .u16 0, .int .u32 0, .int .u32 0, .bool false, .bool false, .bool false, .bool false, .int .u16 0, .string ⟨#[]⟩, .string ⟨#[]⟩] 25)).alloc (.cells CN 5)).drew) := convN _ _ (by have h := Blk.new ((wr.alloc (.cells CM 5)).alloc (.cells #[.int .i64 0, .int .u16 0, .int .u16 0, .int .u32 0, .int .u32 0, .bool false, .bool false, .bool false, .bool false, .int .u16 0, .string ⟨#[]⟩, .string ⟨#[]⟩] 25)) 5 CN; rw [World.size_alloc] at h; rw [World.size_alloc] at h; exact h.drew)
      have cv20 : (convert 45 9 (.slice (some ⟨wr.heap.size + 1, 0, none⟩) 1024 1024)).run Tryd.prog ((((wr.alloc (.cells CM 5)).alloc (.cells CN 5)).alloc (.cells #[.int .i64 0, .int .u16 0, .int .u16 0, .int .u32 0, .int .u32 0, .bool false, .bool false, .bool false, .bool false, .int .u16 0, .string ⟨#[]⟩, .string ⟨#[]⟩] 25)).drew) = .ok (.string TD) ((((wr.alloc (.cells CM 5)).alloc (.cells CN 5)).alloc (.cells #[.int .i64 0, .int .u16 0, .int .u16 0, .int .u32 0, .int .u32 0, .bool false, .bool false, .bool false, .bool false, .int .u16 0, .string ⟨#[]⟩, .string ⟨#[]⟩] 25)).drew) := convN _ _ (by have h := Blk.new (wr.alloc (.cells CM 5)) 5 CN; rw [World.size_alloc] at h; exact (h.alloc _).drew)
      have cv21 : (convert 45 9 (.slice (some ⟨wr.heap.size, 0, none⟩) 1024 1024)).run Tryd.prog ((((wr.alloc (.cells CN 5)).alloc (.cells #[.int .i64 0, .int .u16 0, .int .u16 0, .int .u32 0, .int .u32 0, .bool false, .bool false, .bool false, .bool false, .int .u16 0, .string ⟨#[]⟩, .string ⟨#[]⟩] 25)).alloc (.cells CM 5)).drew) = .ok (.string TD) ((((wr.alloc (.cells CN 5)).alloc (.cells #[.int .i64 0, .int .u16 0, .int .u16 0, .int .u32 0, .int .u32 0, .bool false, .bool false, .bool false, .bool false, .int .u16 0, .string ⟨#[]⟩, .string ⟨#[]⟩] 25)).alloc (.cells CM 5)).drew) := convN _ _ (by have h := Blk.new wr 5 CN; exact ((h.alloc _).alloc _).drew)
      have cv22 : (convert 45 9 (.slice (some ⟨wr.heap.size, 0, none⟩) 1024 1024)).run Tryd.prog ((((wr.alloc (.cells CN 5)).alloc (.cells CM 5)).alloc (.cells #[.int .i64 0, .int .u16 0, .int .u16 0, .int .u32 0, .int .u32 0, .bool false, .bool false, .bool false, .bool false, .int .u16 0, .string ⟨#[]⟩, .string ⟨#[]⟩] 25)).drew) = .ok (.string TD) ((((wr.alloc (.cells CN 5)).alloc (.cells CM 5)).alloc (.cells #[.int .i64 0, .int .u16 0, .int .u16 0, .int .u32 0, .int .u32 0, .bool false, .bool false, .bool false, .bool false, .int .u16 0, .string ⟨#[]⟩, .string ⟨#[]⟩] 25)).drew) := convN _ _ (by have h := Blk.new wr 5 CN; exact ((h.alloc _).alloc _).drew)
      have HTA := Lib.hid hTA
      have HTD := Lib.hid hTD
      clear hCM hCN hTA hTD convM convN
      go_upto_region 14 with fail
      go_cut [7] from 61 to 66 (fun p wx => ∃ b, p = .pointer (some ⟨b, 0, none⟩) ∧ w.heap.size ≤ b ∧ Blk wx b 25 (segv ⟨0, 65535, 65535, 4294967295, 4294967295, false, false, false, false, 65535, TA, TD⟩) ∧ Below w.heap.size w wx ∧ Tbl wx)
      case first =>
        go_region
        all_goals (go_wp2_with fail)
        all_goals (go_meet)
        all_goals refine ⟨_, rfl, by have := hB.out.size; omega, ?_, below3 hB.out _ _ _, (((hT.out.alloc _).alloc _).alloc _).drewN 1⟩
        all_goals first
          | exact (blk2 wr _ _ 25 _).drew
          | exact ((blk1 wr _ 25 _).alloc _).drew
          | exact (((Blk.new wr 25 _).alloc _).alloc _).drew
      case rest =>
        obtain ⟨b, rfl, LBB, hX', hB', hT'⟩ := hcut
        clear hB hT
        obtain ⟨L, hL⟩ : ∃ L : Sg, L = ⟨0, 65535, 65535, 4294967295, 4294967295, false, false, false, false, 65535, TA, TD⟩ := ⟨_, rfl⟩
        rw [← hL] at hX'
        have zA : TA.size = 40 := by rw [← HTA.out, txt_size, List.length_replicate]
        have zD : TD.size = 1024 := by rw [← HTD.out, txt_size, List.length_replicate]
        have lok : L.Ok := by rw [hL]; exact ⟨show 65535 ≤ 65535 by decide, show 65535 ≤ 65535 by decide, show 4294967295 ≤ 4294967295 by decide, show 4294967295 ≤ 4294967295 by decide, show 65535 ≤ 65535 by decide, show TA.size ≤ _ by omega, show TD.size ≤ _ by omega⟩
        have lfit : L.fits = true := by
          rw [hL]
          show (decide (TA.size ≤ 40) && (decide (TA.size % 4 = 0) && decide (TD.size ≤ 1024))) = true
          rw [zA, zD]; rfl
        have larea : L.area = TA := by rw [hL]
        have ldata : L.data = TD := by rw [hL]
        have lpath : ({ L with path := 0 } : Sg) = L := by rw [hL]
        obtain ⟨k1, k2, k3⟩ := L.fits_t lfit
        obtain ⟨m1, m2⟩ := laid_parsed L lok k1 k2 k3
        obtain ⟨t, ht⟩ : ∃ t, t = txt L.bytes := ⟨_, rfl⟩
        have ts : t.size = 1084 := by rw [ht, txt_size, L.bytes_length, larea, ldata, zA, zD]
        have hlay : L.lay = .tuple #[.string t, .int .i64 0] := by rw [ht]; exact L.lay_t lfit
        have hpv : parseV t.data.toList = .tuple #[.agg (segv L), .int .i64 0] := by rw [ht]; show parseV L.bytes = _; rw [parseV_t _ m1, m2, lpath]
        have HX := Lib.hid hX'
        have HB := Lib.hid hB'
        have HTT := Lib.hid hT'
        have LOK := Lib.hid lok
        have HLAY := Lib.hid hlay
        have HPV := Lib.hid hpv
        have LA := Lib.hid larea
        have LD := Lib.hid ldata
        have LL := Lib.hid hL
        clear hX' hB' hT' lok hlay hpv larea ldata hL lfit lpath k1 k2 k3 m1 m2 ht hj hj16
        go_wp2_with (refine wpList_load_row rfl 25 _ rfl b rfl 25 (segv L) (0, 0) _ ?_ Tryd.underlying25 rfl seg_size ?_; exact HX.out)
        refine (Lay_any L _ LOK.out HTT.out).mono ?_
        rintro e V1 ⟨rfl, b1⟩
        rw [HLAY.out]
        have X1 := Lib.hid (HX.out.below b1 HX.out.lt)
        have T1 := Lib.hid (HTT.out.below b1)
        have B1 := Lib.hid (below_then HB.out b1)
        clear b1
        go_wp2_with fail
        refine (Parse_any t _ (by omega) T1.out).mono ?_
        rintro e V2 ⟨rfl, b2⟩
        rw [HPV.out]
        have X2 := Lib.hid (X1.out.below b2 X1.out.lt)
        have T2 := Lib.hid (T1.out.below b2)
        have B2 := Lib.hid (below_then B1.out b2)
        clear b2 X1 T1 B1 HX HB HTT
        have hb4 : Below V2.heap.size V2 ((V2.alloc (.cells #[.int .i64 0, .int .u16 0, .int .u16 0, .int .u32 0, .int .u32 0, .bool false, .bool false, .bool false, .bool false, .int .u16 0, .string ⟨#[]⟩, .string ⟨#[]⟩] 25)).setRow V2.heap.size (segv L)) := below_setRow ((Below.refl _ V2).alloc (Nat.le_refl _) _) (Nat.le_refl _) _
        have X3 := X2.out.below hb4 X2.out.lt
        have Y3 : Blk ((V2.alloc (.cells #[.int .i64 0, .int .u16 0, .int .u16 0, .int .u32 0, .int .u32 0, .bool false, .bool false, .bool false, .bool false, .int .u16 0, .string ⟨#[]⟩, .string ⟨#[]⟩] 25)).setRow V2.heap.size (segv L)) V2.heap.size 25 (segv L) := setRow_heap _ V2.heap.size _ (segv L) _ _ (heap_alloc_new V2 _)
        have B3 := below_then B2.out hb4
        have NE : b ≠ V2.heap.size := by have := X2.out.lt; omega
        have LB : w.heap.size ≤ b := LBB
        have c11 : ((V2.alloc (.cells #[.int .i64 0, .int .u16 0, .int .u16 0, .int .u32 0, .int .u32 0, .bool false, .bool false, .bool false, .bool false, .int .u16 0, .string ⟨#[]⟩, .string ⟨#[]⟩] 25)).setRow V2.heap.size (segv L)).cell? ⟨b, 11, none⟩ = some (.string TD) := by rw [X3.cell 11]; show some (Value.string L.data) = _; rw [LD.out]
        have f11 := X3.frozen 11
        have X4' := X3.set_ 11 (.string (TD ++ ⟨#[120]⟩))
        have Y4 := Lib.hid (Y3.setO (p := ⟨b, 11, none⟩) NE (.string (TD ++ ⟨#[120]⟩)))
        have B4 := Lib.hid (B3.setCell (p := ⟨b, 11, none⟩) LB (.string (TD ++ ⟨#[120]⟩)))
        have T4 := Lib.hid (HT.out.under B4.out HPOS.out)
        obtain ⟨L1, hL1⟩ : ∃ L1 : Sg, L1 = { L with data := TD ++ ⟨#[120]⟩ } := ⟨_, rfl⟩
        have X4 := Lib.hid (show Blk (((V2.alloc (.cells #[.int .i64 0, .int .u16 0, .int .u16 0, .int .u32 0, .int .u32 0, .bool false, .bool false, .bool false, .bool false, .int .u16 0, .string ⟨#[]⟩, .string ⟨#[]⟩] 25)).setRow V2.heap.size (segv L)).setCell ⟨b, 11, none⟩ (.string (TD ++ ⟨#[120]⟩))) b 25 (segv L1) by rw [hL1]; exact X4')
        have z1 : (TD ++ ⟨#[120]⟩ : ByteArray).size = 1025 := by rw [ByteArray.size_append, zD]; rfl
        have l1ok := Lib.hid (show L1.Ok by rw [hL1]; exact ⟨LOK.out.src, LOK.out.dst, LOK.out.seq, LOK.out.ack, LOK.out.win, LOK.out.area, show (TD ++ ⟨#[120]⟩ : ByteArray).size ≤ _ by omega⟩)
        have l1lay : L1.lay = .tuple #[.string ⟨#[]⟩, .int .i64 6] := by
          apply Sg.lay_f
          rw [hL1]
          show (decide (L.area.size ≤ 40) && (decide (L.area.size % 4 = 0) && decide ((TD ++ ⟨#[120]⟩ : ByteArray).size ≤ 1024))) = false
          rw [z1]; simp
        have HL1 := Lib.hid l1lay
        clear hb4 X2 T2 B2 X3 Y3 B3 X4' LB hL1 l1lay
        go_wp2_with (first
          | (refine wpList_store_row rfl 25 _ _ rfl V2.heap.size (segv L) rfl rfl 25 #[.int .i64 0, .int .u16 0, .int .u16 0, .int .u32 0, .int .u32 0, .bool false, .bool false, .bool false, .bool false, .int .u16 0, .string ⟨#[]⟩, .string ⟨#[]⟩] ?_ seg_size rfl (segv_one _) ?_; exact heap_alloc_new V2 _)
          | (refine wpList_load_row rfl 25 _ rfl b rfl 25 (segv L1) (0, 0) _ ?_ Tryd.underlying25 rfl seg_size ?_; exact X4.out))
        refine (Lay_any L1 _ l1ok.out T4.out).mono ?_
        rintro e V5 ⟨rfl, b5⟩
        rw [HL1.out]
        obtain ⟨d', hd'⟩ : ∃ d', d' = V2.heap.size := ⟨_, rfl⟩
        have Y5 := Lib.hid (Y4.out.below b5 Y4.out.lt)
        have T5 := Lib.hid (T4.out.below b5)
        have B5 := Lib.hid (below_then B4.out b5)
        rw [← hd'] at Y5 ⊢
        clear b5 hd' X4 Y4 T4 B4 c11 f11 NE
        obtain ⟨CX, hCX⟩ : ∃ CX, CX = byv (List.replicate 1025 0) := ⟨_, rfl⟩
        obtain ⟨TX, hTX⟩ : ∃ TX, txt (List.replicate 1025 0) = TX := ⟨_, rfl⟩
        have zX : TX.size = 1025 := by rw [← hTX, txt_size, List.length_replicate]
        have mkX : ∀ W, (Instr.makeSlice 45 (.int .i64 1025) (.int .i64 1025)).run Tryd.prog W = .ok (.slice (some ⟨W.heap.size, 0, none⟩) 1025 1025) (W.alloc (.cells CX 5)) := fun W => by rw [hCX]; exact make_any W 1025 _ rfl (by decide)
        have cvX : ∀ W : World, (convert 45 9 (.slice (some ⟨W.heap.size, 0, none⟩) 1025 1025)).run Tryd.prog (W.alloc (.cells CX 5)) = .ok (.string TX) (W.alloc (.cells CX 5)) := fun W => by
          rw [hCX]; exact Bt.text (Blk.new W _ _) 1025 1025 (by rw [List.length_replicate]) TX hTX
        have zLA : L.area.size = 40 := by rw [LA.out]; exact zA
        have CD1 := Lib.hid (show code (⟨#[]⟩ : ByteArray).data.toList = 4 by decide +kernel)
        have ZZ1 := Lib.hid (show (⟨#[]⟩ : ByteArray).size ≤ 4611686018427387904 by decide)
        have CD2 := Lib.hid (show code ((((txt chapB).extract 0 12) ++ (⟨#[64]⟩ : ByteArray)) ++ ((txt chapB).extract 13 21)).data.toList = 5 by decide +kernel)
        have ZZ2 := Lib.hid (show ((((txt chapB).extract 0 12) ++ (⟨#[64]⟩ : ByteArray)) ++ ((txt chapB).extract 13 21)).size ≤ 4611686018427387904 by decide +kernel)
        have CD3 := Lib.hid (show code ((((txt chapB).extract 0 12) ++ (⟨#[81]⟩ : ByteArray)) ++ ((txt chapB).extract 13 21)).data.toList = 5 by decide +kernel)
        have ZZ3 := Lib.hid (show ((((txt chapB).extract 0 12) ++ (⟨#[81]⟩ : ByteArray)) ++ ((txt chapB).extract 13 21)).size ≤ 4611686018427387904 by decide +kernel)
        have CD4 := Lib.hid (show code ((((txt chapB).extract 0 12) ++ (⟨#[96, 255]⟩ : ByteArray)) ++ ((txt chapB).extract 14 21)).data.toList = 4 by decide +kernel)
        have ZZ4 := Lib.hid (show ((((txt chapB).extract 0 12) ++ (⟨#[96, 255]⟩ : ByteArray)) ++ ((txt chapB).extract 14 21)).size ≤ 4611686018427387904 by decide +kernel)
        have CD5 := Lib.hid (show code ((((txt chapB).extract 0 13) ++ (⟨#[50]⟩ : ByteArray)) ++ ((txt chapB).extract 14 21)).data.toList = 5 by decide +kernel)
        have ZZ5 := Lib.hid (show ((((txt chapB).extract 0 13) ++ (⟨#[50]⟩ : ByteArray)) ++ ((txt chapB).extract 14 21)).size ≤ 4611686018427387904 by decide +kernel)
        have CD6 := Lib.hid (show code ((((txt chapB).extract 0 13) ++ (⟨#[26]⟩ : ByteArray)) ++ ((txt chapB).extract 14 21)).data.toList = 5 by decide +kernel)
        have ZZ6 := Lib.hid (show ((((txt chapB).extract 0 13) ++ (⟨#[26]⟩ : ByteArray)) ++ ((txt chapB).extract 14 21)).size ≤ 4611686018427387904 by decide +kernel)
        have CD7 := Lib.hid (show code ((((txt chapB).extract 0 18) ++ (⟨#[1]⟩ : ByteArray)) ++ ((txt chapB).extract 19 21)).data.toList = 5 by decide +kernel)
        have ZZ7 := Lib.hid (show ((((txt chapB).extract 0 18) ++ (⟨#[1]⟩ : ByteArray)) ++ ((txt chapB).extract 19 21)).size ≤ 4611686018427387904 by decide +kernel)
        have CD8 := Lib.hid (show code (((txt chapB).extract 0 20) ++ (txt (List.replicate 1025 0))).data.toList = 6 by decide +kernel)
        have ZZ8 := Lib.hid (show (((txt chapB).extract 0 20) ++ (txt (List.replicate 1025 0))).size ≤ 4611686018427387904 by decide +kernel)
        have CD9 := Lib.hid (show code ((((txt chapB).extract 0 16) ++ (⟨#[78, 223]⟩ : ByteArray)) ++ ((txt chapB).extract 18 21)).data.toList = 10 by decide +kernel)
        have ZZ9 := Lib.hid (show ((((txt chapB).extract 0 16) ++ (⟨#[78, 223]⟩ : ByteArray)) ++ ((txt chapB).extract 18 21)).size ≤ 4611686018427387904 by decide +kernel)
        have hts : ((t.size : Int) == 1084) = true := by rw [ts]; rfl
        have hlas : ((L.area.size : Int) == 40) = true := by rw [zLA]; rfl
        subst hTX
        obtain rfl := HS.out
        clear hCX
        go_wp2_with fail
        simp only [List.append]
        refine region_mixed (S := fun _ => True) (false :: true :: false :: false :: false :: false :: false :: false :: false :: false :: false :: false :: false :: false :: false :: false :: false :: false :: true :: false :: false :: false :: false :: false :: false :: false :: false :: true :: false :: false :: false :: false :: false :: false :: false :: false :: true :: false :: false :: false :: false :: false :: false :: false :: false :: true :: false :: false :: false :: false :: false :: false :: false :: false :: true :: false :: false :: false :: false :: false :: false :: false :: false :: true :: false :: false :: false :: false :: false :: false :: false :: false :: true :: false :: false :: false :: false :: false :: false :: false :: false :: true :: false :: false :: false :: false :: true :: true :: false :: true :: false :: false :: false :: false :: false :: false :: false :: false :: true :: false :: false :: []) [⟨some 85, [], []⟩, ⟨some 86, [85], [0, 0]⟩, ⟨some 87, [85, 86], [0, 1]⟩, ⟨some 88, [87], [2, 1]⟩, ⟨some 89, [9, 88], [3]⟩, ⟨some 90, [89, 88], [4, 3]⟩, ⟨some 91, [88, 90], [3, 5]⟩, ⟨some 92, [91], [6, 3]⟩, ⟨some 93, [8, 92], [7]⟩, ⟨some 94, [93, 92], [8, 7]⟩, ⟨some 95, [94, 92], [9, 7]⟩, ⟨some 96, [92, 95], [7, 10]⟩, ⟨some 97, [96], [11, 7]⟩, ⟨some 98, [11, 97], [12]⟩, ⟨some 99, [98, 97], [13, 12]⟩, ⟨some 100, [97, 99], [12, 14]⟩, ⟨some 101, [100], [15, 12]⟩, ⟨some 102, [10, 101], [16]⟩, ⟨some 103, [102, 101], [17, 16]⟩, ⟨some 104, [103, 101], [18, 16]⟩, ⟨some 105, [104, 101], [19, 16]⟩, ⟨some 106, [101, 105], [16, 20]⟩, ⟨some 107, [106], [21, 16]⟩, ⟨some 108, [13, 107], [22]⟩, ⟨some 109, [108, 107], [23, 22]⟩, ⟨some 110, [107, 109], [22, 24]⟩, ⟨some 111, [110], [25, 22]⟩, ⟨some 112, [111], [26, 26]⟩, ⟨some 113, [111, 112], [26, 27]⟩, ⟨some 114, [113], [28, 27]⟩, ⟨some 115, [2, 114], [29]⟩, ⟨some 116, [115, 114], [30, 29]⟩, ⟨some 117, [116, 114], [31, 29]⟩, ⟨some 118, [2, 114], [29]⟩, ⟨some 119, [118, 114], [33, 29]⟩, ⟨some 120, [117, 119, 114], [32, 34, 29]⟩, ⟨some 121, [120, 114], [35, 29, 29]⟩, ⟨some 122, [114, 121], [29, 36]⟩, ⟨some 123, [122], [37, 36]⟩, ⟨some 124, [2, 123], [38]⟩, ⟨some 125, [124, 123], [39, 38]⟩, ⟨some 126, [125, 123], [40, 38]⟩, ⟨some 127, [2, 123], [38]⟩, ⟨some 128, [127, 123], [42, 38]⟩, ⟨some 129, [126, 128, 123], [41, 43, 38]⟩, ⟨some 130, [129, 123], [44, 38, 38]⟩, ⟨some 131, [123, 130], [38, 45]⟩, ⟨some 132, [131], [46, 45]⟩, ⟨some 133, [2, 132], [47]⟩, ⟨some 134, [133, 132], [48, 47]⟩, ⟨some 135, [134, 132], [49, 47]⟩, ⟨some 136, [2, 132], [47]⟩, ⟨some 137, [136, 132], [51, 47]⟩, ⟨some 138, [135, 137, 132], [50, 52, 47]⟩, ⟨some 139, [138, 132], [53, 47, 47]⟩, ⟨some 140, [132, 139], [47, 54]⟩, ⟨some 141, [140], [55, 54]⟩, ⟨some 142, [2, 141], [56]⟩, ⟨some 143, [142, 141], [57, 56]⟩, ⟨some 144, [143, 141], [58, 56]⟩, ⟨some 145, [2, 141], [56]⟩, ⟨some 146, [145, 141], [60, 56]⟩, ⟨some 147, [144, 146, 141], [59, 61, 56]⟩, ⟨some 148, [147, 141], [62, 56, 56]⟩, ⟨some 149, [141, 148], [56, 63]⟩, ⟨some 150, [149], [64, 63]⟩, ⟨some 151, [2, 150], [65]⟩, ⟨some 152, [151, 150], [66, 65]⟩, ⟨some 153, [152, 150], [67, 65]⟩, ⟨some 154, [2, 150], [65]⟩, ⟨some 155, [154, 150], [69, 65]⟩, ⟨some 156, [153, 155, 150], [68, 70, 65]⟩, ⟨some 157, [156, 150], [71, 65, 65]⟩, ⟨some 158, [150, 157], [65, 72]⟩, ⟨some 159, [158], [73, 72]⟩, ⟨some 160, [2, 159], [74]⟩, ⟨some 161, [160, 159], [75, 74]⟩, ⟨some 162, [161, 159], [76, 74]⟩, ⟨some 163, [2, 159], [74]⟩, ⟨some 164, [163, 159], [78, 74]⟩, ⟨some 165, [162, 164, 159], [77, 79, 74]⟩, ⟨some 166, [165, 159], [80, 74, 74]⟩, ⟨some 167, [159, 166], [74, 81]⟩, ⟨some 168, [167], [82, 81]⟩, ⟨some 169, [2, 168], [83]⟩, ⟨some 170, [169, 168], [84, 83]⟩, ⟨some 171, [168], [83]⟩, ⟨some 172, [171, 168], [86, 83]⟩, ⟨some 173, [170, 172, 168], [85, 87, 83]⟩, ⟨some 174, [173, 168], [88, 83, 83]⟩, ⟨some 175, [168, 174], [83, 89]⟩, ⟨some 176, [175], [90, 89]⟩, ⟨some 177, [2, 176], [91]⟩, ⟨some 178, [177, 176], [92, 91]⟩, ⟨some 179, [178, 176], [93, 91]⟩, ⟨some 180, [2, 176], [91]⟩, ⟨some 181, [180, 176], [95, 91]⟩, ⟨some 182, [179, 181, 176], [94, 96, 91]⟩, ⟨some 183, [182, 176], [97, 91, 91]⟩, ⟨some 184, [176, 183], [91, 98]⟩, ⟨some 0, [184], [99, 98, 0, 1, 2, 3, 4, 5, 6, 7, 8, 9, 10, 11, 12, 13, 14, 15, 16, 17, 18, 19, 20, 21, 22, 23, 24, 25, 26, 27, 28, 29, 30, 31, 32, 33, 34, 35, 36, 37, 38, 39, 40, 41, 42, 43, 44, 45, 46, 47, 48, 49, 50, 51, 52, 53, 54, 55, 56, 57, 58, 59, 60, 61, 62, 63, 64, 65, 66, 67, 68, 69, 70, 71, 72, 73, 74, 75, 76, 77, 78, 79, 80, 81, 82, 83, 84, 85, 86, 87, 88, 89, 90, 91, 92, 93, 94, 95, 96, 97, 98, 99]⟩] (by kernel_rfl) (by kernel_rfl) (by kernel_rfl) (by kernel_rfl) trivial ?_
        refine mix_yields (.bool true) (by kernel_rfl) (fun _ _ => by kernel_rfl) ?_
        refine mix_call (by kernel_rfl) (by kernel_rfl) (works_any _ (T5.out.drewN 1)) (fun _ _ => trivial) ?_
        intro Ww0 bw0
        have Yw0 := Lib.hid (Blk.below (Y5.out.drew) bw0 (Y5.out.drew).lt)
        have Tw0 := Lib.hid (Tbl.below (T5.out.drewN 1) bw0)
        have Bw0 := Lib.hid (below_then (B5.out.drew) bw0)
        clear bw0
        refine mix_yields (.bool true) (by kernel_rfl) (fun _ _ => by kernel_rfl) ?_
        refine mix_yields (.bool true) (by kernel_rfl) (fun _ _ => by kernel_rfl) ?_
        refine mix_yields (.int .i64 0) (by kernel_rfl) (fun _ _ => by kernel_rfl) ?_
        refine mix_yields (.bool true) (by kernel_rfl) (fun _ _ => by kernel_rfl) ?_
        refine mix_yields (.bool true) (by kernel_rfl) (fun _ _ => by kernel_rfl) ?_
        refine mix_yields (.bool true) (by kernel_rfl) (fun _ _ => by kernel_rfl) ?_
        refine mix_yields (.string t) (by kernel_rfl) (fun _ _ => by kernel_rfl) ?_
        refine mix_yields (.int .i64 (t.size : Int)) (by kernel_rfl) (fun _ _ => by kernel_rfl) ?_
        refine mix_yields (.bool ((t.size : Int) == 1084)) (by kernel_rfl) (fun _ _ => by kernel_rfl) ?_
        rw [hts]
        refine mix_yields (.bool true) (by kernel_rfl) (fun _ _ => by kernel_rfl) ?_
        refine mix_yields (.bool true) (by kernel_rfl) (fun _ _ => by kernel_rfl) ?_
        refine mix_yields (.int .i64 0) (by kernel_rfl) (fun _ _ => by kernel_rfl) ?_
        refine mix_yields (.bool true) (by kernel_rfl) (fun _ _ => by kernel_rfl) ?_
        refine mix_yields (.bool true) (by kernel_rfl) (fun _ _ => by kernel_rfl) ?_
        refine mix_yields (.bool true) (by kernel_rfl) (fun _ _ => by kernel_rfl) ?_
        refine mix_yields (.pointer (some ⟨d', 10, none⟩)) (by kernel_rfl) (fun _ _ => by kernel_rfl) ?_
        have c10 : Ww0.cell? ⟨d', 10, none⟩ = some (.string L.area) := Yw0.out.cell 10
        refine mix_does (v := .string L.area) (w' := Ww0) ?_ ?_ trivial ?_
        · kernel_rfl
        · exact op_load (ty := 9) (x := .tmp 102) (p := ⟨d', 10, none⟩) rfl (by kernel_rfl) (by kernel_rfl) c10
        refine mix_yields (.int .i64 (L.area.size : Int)) (by kernel_rfl) (fun _ _ => by kernel_rfl) ?_
        refine mix_yields (.bool ((L.area.size : Int) == 40)) (by kernel_rfl) (fun _ _ => by kernel_rfl) ?_
        rw [hlas]
        refine mix_yields (.bool true) (by kernel_rfl) (fun _ _ => by kernel_rfl) ?_
        refine mix_yields (.bool true) (by kernel_rfl) (fun _ _ => by kernel_rfl) ?_
        refine mix_yields (.int .i64 6) (by kernel_rfl) (fun _ _ => by kernel_rfl) ?_
        refine mix_yields (.bool true) (by kernel_rfl) (fun _ _ => by kernel_rfl) ?_
        refine mix_yields (.bool true) (by kernel_rfl) (fun _ _ => by kernel_rfl) ?_
        refine mix_yields (.bool true) (by kernel_rfl) (fun _ _ => by kernel_rfl) ?_
        refine mix_call (by kernel_rfl) (by kernel_rfl) (refused_t ⟨#[]⟩ 4 _ ZZ1.out CD1.out (by decide) Tw0.out) (fun _ _ => trivial) ?_
        intro Ww1 bw1
        have Yw1 := Lib.hid (Blk.below (Yw0.out) bw1 (Yw0.out).lt)
        have Tw1 := Lib.hid (Tbl.below Tw0.out bw1)
        have Bw1 := Lib.hid (below_then (Bw0.out) bw1)
        clear bw1
        refine mix_yields (.bool true) (by kernel_rfl) (fun _ _ => by kernel_rfl) ?_
        refine mix_yields (.bool true) (by kernel_rfl) (fun _ _ => by kernel_rfl) ?_
        refine mix_yields (.string (txt chapB)) (by kernel_rfl) (fun _ _ => by kernel_rfl) ?_
        refine mix_yields (.string ((txt chapB).extract 0 12)) (by kernel_rfl) (fun _ _ => by kernel_rfl) ?_
        refine mix_yields (.string (((txt chapB).extract 0 12) ++ (⟨#[64]⟩ : ByteArray))) (by kernel_rfl) (fun _ _ => by kernel_rfl) ?_
        refine mix_yields (.string (txt chapB)) (by kernel_rfl) (fun _ _ => by kernel_rfl) ?_
        refine mix_yields (.string ((txt chapB).extract 13 21)) (by kernel_rfl) (fun _ _ => by kernel_rfl) ?_
        refine mix_yields (.string ((((txt chapB).extract 0 12) ++ (⟨#[64]⟩ : ByteArray)) ++ ((txt chapB).extract 13 21))) (by kernel_rfl) (fun _ _ => by kernel_rfl) ?_
        refine mix_call (by kernel_rfl) (by kernel_rfl) (refused_t ((((txt chapB).extract 0 12) ++ (⟨#[64]⟩ : ByteArray)) ++ ((txt chapB).extract 13 21)) 5 _ ZZ2.out CD2.out (by decide) Tw1.out) (fun _ _ => trivial) ?_
        intro Ww2 bw2
        have Yw2 := Lib.hid (Blk.below (Yw1.out) bw2 (Yw1.out).lt)
        have Tw2 := Lib.hid (Tbl.below Tw1.out bw2)
        have Bw2 := Lib.hid (below_then (Bw1.out) bw2)
        clear bw2
        refine mix_yields (.bool true) (by kernel_rfl) (fun _ _ => by kernel_rfl) ?_
        refine mix_yields (.bool true) (by kernel_rfl) (fun _ _ => by kernel_rfl) ?_
        refine mix_yields (.string (txt chapB)) (by kernel_rfl) (fun _ _ => by kernel_rfl) ?_
        refine mix_yields (.string ((txt chapB).extract 0 12)) (by kernel_rfl) (fun _ _ => by kernel_rfl) ?_
        refine mix_yields (.string (((txt chapB).extract 0 12) ++ (⟨#[81]⟩ : ByteArray))) (by kernel_rfl) (fun _ _ => by kernel_rfl) ?_
        refine mix_yields (.string (txt chapB)) (by kernel_rfl) (fun _ _ => by kernel_rfl) ?_
        refine mix_yields (.string ((txt chapB).extract 13 21)) (by kernel_rfl) (fun _ _ => by kernel_rfl) ?_
        refine mix_yields (.string ((((txt chapB).extract 0 12) ++ (⟨#[81]⟩ : ByteArray)) ++ ((txt chapB).extract 13 21))) (by kernel_rfl) (fun _ _ => by kernel_rfl) ?_
        refine mix_call (by kernel_rfl) (by kernel_rfl) (refused_t ((((txt chapB).extract 0 12) ++ (⟨#[81]⟩ : ByteArray)) ++ ((txt chapB).extract 13 21)) 5 _ ZZ3.out CD3.out (by decide) Tw2.out) (fun _ _ => trivial) ?_
        intro Ww3 bw3
        have Yw3 := Lib.hid (Blk.below (Yw2.out) bw3 (Yw2.out).lt)
        have Tw3 := Lib.hid (Tbl.below Tw2.out bw3)
        have Bw3 := Lib.hid (below_then (Bw2.out) bw3)
        clear bw3
        refine mix_yields (.bool true) (by kernel_rfl) (fun _ _ => by kernel_rfl) ?_
        refine mix_yields (.bool true) (by kernel_rfl) (fun _ _ => by kernel_rfl) ?_
        refine mix_yields (.string (txt chapB)) (by kernel_rfl) (fun _ _ => by kernel_rfl) ?_
        refine mix_yields (.string ((txt chapB).extract 0 12)) (by kernel_rfl) (fun _ _ => by kernel_rfl) ?_
        refine mix_yields (.string (((txt chapB).extract 0 12) ++ (⟨#[96, 255]⟩ : ByteArray))) (by kernel_rfl) (fun _ _ => by kernel_rfl) ?_
        refine mix_yields (.string (txt chapB)) (by kernel_rfl) (fun _ _ => by kernel_rfl) ?_
        refine mix_yields (.string ((txt chapB).extract 14 21)) (by kernel_rfl) (fun _ _ => by kernel_rfl) ?_
        refine mix_yields (.string ((((txt chapB).extract 0 12) ++ (⟨#[96, 255]⟩ : ByteArray)) ++ ((txt chapB).extract 14 21))) (by kernel_rfl) (fun _ _ => by kernel_rfl) ?_
        refine mix_call (by kernel_rfl) (by kernel_rfl) (refused_t ((((txt chapB).extract 0 12) ++ (⟨#[96, 255]⟩ : ByteArray)) ++ ((txt chapB).extract 14 21)) 4 _ ZZ4.out CD4.out (by decide) Tw3.out) (fun _ _ => trivial) ?_
        intro Ww4 bw4
        have Yw4 := Lib.hid (Blk.below (Yw3.out) bw4 (Yw3.out).lt)
        have Tw4 := Lib.hid (Tbl.below Tw3.out bw4)
        have Bw4 := Lib.hid (below_then (Bw3.out) bw4)
        clear bw4
        refine mix_yields (.bool true) (by kernel_rfl) (fun _ _ => by kernel_rfl) ?_
        refine mix_yields (.bool true) (by kernel_rfl) (fun _ _ => by kernel_rfl) ?_
        refine mix_yields (.string (txt chapB)) (by kernel_rfl) (fun _ _ => by kernel_rfl) ?_
        refine mix_yields (.string ((txt chapB).extract 0 13)) (by kernel_rfl) (fun _ _ => by kernel_rfl) ?_
        refine mix_yields (.string (((txt chapB).extract 0 13) ++ (⟨#[50]⟩ : ByteArray))) (by kernel_rfl) (fun _ _ => by kernel_rfl) ?_
        refine mix_yields (.string (txt chapB)) (by kernel_rfl) (fun _ _ => by kernel_rfl) ?_
        refine mix_yields (.string ((txt chapB).extract 14 21)) (by kernel_rfl) (fun _ _ => by kernel_rfl) ?_
        refine mix_yields (.string ((((txt chapB).extract 0 13) ++ (⟨#[50]⟩ : ByteArray)) ++ ((txt chapB).extract 14 21))) (by kernel_rfl) (fun _ _ => by kernel_rfl) ?_
        refine mix_call (by kernel_rfl) (by kernel_rfl) (refused_t ((((txt chapB).extract 0 13) ++ (⟨#[50]⟩ : ByteArray)) ++ ((txt chapB).extract 14 21)) 5 _ ZZ5.out CD5.out (by decide) Tw4.out) (fun _ _ => trivial) ?_
        intro Ww5 bw5
        have Yw5 := Lib.hid (Blk.below (Yw4.out) bw5 (Yw4.out).lt)
        have Tw5 := Lib.hid (Tbl.below Tw4.out bw5)
        have Bw5 := Lib.hid (below_then (Bw4.out) bw5)
        clear bw5
        refine mix_yields (.bool true) (by kernel_rfl) (fun _ _ => by kernel_rfl) ?_
        refine mix_yields (.bool true) (by kernel_rfl) (fun _ _ => by kernel_rfl) ?_
        refine mix_yields (.string (txt chapB)) (by kernel_rfl) (fun _ _ => by kernel_rfl) ?_
        refine mix_yields (.string ((txt chapB).extract 0 13)) (by kernel_rfl) (fun _ _ => by kernel_rfl) ?_
        refine mix_yields (.string (((txt chapB).extract 0 13) ++ (⟨#[26]⟩ : ByteArray))) (by kernel_rfl) (fun _ _ => by kernel_rfl) ?_
        refine mix_yields (.string (txt chapB)) (by kernel_rfl) (fun _ _ => by kernel_rfl) ?_
        refine mix_yields (.string ((txt chapB).extract 14 21)) (by kernel_rfl) (fun _ _ => by kernel_rfl) ?_
        refine mix_yields (.string ((((txt chapB).extract 0 13) ++ (⟨#[26]⟩ : ByteArray)) ++ ((txt chapB).extract 14 21))) (by kernel_rfl) (fun _ _ => by kernel_rfl) ?_
        refine mix_call (by kernel_rfl) (by kernel_rfl) (refused_t ((((txt chapB).extract 0 13) ++ (⟨#[26]⟩ : ByteArray)) ++ ((txt chapB).extract 14 21)) 5 _ ZZ6.out CD6.out (by decide) Tw5.out) (fun _ _ => trivial) ?_
        intro Ww6 bw6
        have Yw6 := Lib.hid (Blk.below (Yw5.out) bw6 (Yw5.out).lt)
        have Tw6 := Lib.hid (Tbl.below Tw5.out bw6)
        have Bw6 := Lib.hid (below_then (Bw5.out) bw6)
        clear bw6
        refine mix_yields (.bool true) (by kernel_rfl) (fun _ _ => by kernel_rfl) ?_
        refine mix_yields (.bool true) (by kernel_rfl) (fun _ _ => by kernel_rfl) ?_
        refine mix_yields (.string (txt chapB)) (by kernel_rfl) (fun _ _ => by kernel_rfl) ?_
        refine mix_yields (.string ((txt chapB).extract 0 18)) (by kernel_rfl) (fun _ _ => by kernel_rfl) ?_
        refine mix_yields (.string (((txt chapB).extract 0 18) ++ (⟨#[1]⟩ : ByteArray))) (by kernel_rfl) (fun _ _ => by kernel_rfl) ?_
        refine mix_yields (.string (txt chapB)) (by kernel_rfl) (fun _ _ => by kernel_rfl) ?_
        refine mix_yields (.string ((txt chapB).extract 19 21)) (by kernel_rfl) (fun _ _ => by kernel_rfl) ?_
        refine mix_yields (.string ((((txt chapB).extract 0 18) ++ (⟨#[1]⟩ : ByteArray)) ++ ((txt chapB).extract 19 21))) (by kernel_rfl) (fun _ _ => by kernel_rfl) ?_
        refine mix_call (by kernel_rfl) (by kernel_rfl) (refused_t ((((txt chapB).extract 0 18) ++ (⟨#[1]⟩ : ByteArray)) ++ ((txt chapB).extract 19 21)) 5 _ ZZ7.out CD7.out (by decide) Tw6.out) (fun _ _ => trivial) ?_
        intro Ww7 bw7
        have Yw7 := Lib.hid (Blk.below (Yw6.out) bw7 (Yw6.out).lt)
        have Tw7 := Lib.hid (Tbl.below Tw6.out bw7)
        have Bw7 := Lib.hid (below_then (Bw6.out) bw7)
        clear bw7
        refine mix_yields (.bool true) (by kernel_rfl) (fun _ _ => by kernel_rfl) ?_
        refine mix_yields (.bool true) (by kernel_rfl) (fun _ _ => by kernel_rfl) ?_
        refine mix_yields (.string (txt chapB)) (by kernel_rfl) (fun _ _ => by kernel_rfl) ?_
        refine mix_yields (.string ((txt chapB).extract 0 20)) (by kernel_rfl) (fun _ _ => by kernel_rfl) ?_
        refine mix_does (v := .slice (some ⟨Ww7.heap.size, 0, none⟩) 1025 1025) (w' := Ww7.alloc (.cells CX 5)) ?_ ?_ trivial ?_
        · kernel_rfl
        · exact op_make (ty := 45) (x := .const (.int .i64 1025)) (y := .const (.int .i64 1025)) (n := .int .i64 1025) (m := .int .i64 1025) rfl (by kernel_rfl) (by kernel_rfl) (mkX Ww7)
        refine mix_does (v := .string (txt (List.replicate 1025 0))) (w' := Ww7.alloc (.cells CX 5)) ?_ ?_ trivial ?_
        · kernel_rfl
        · exact op_convert (t := 45) (u := 9) (x := .tmp 171) (n := .slice (some ⟨Ww7.heap.size, 0, none⟩) 1025 1025) rfl (by kernel_rfl) (cvX Ww7)
        refine mix_yields (.string (((txt chapB).extract 0 20) ++ (txt (List.replicate 1025 0)))) (by kernel_rfl) (fun _ _ => by kernel_rfl) ?_
        refine mix_call (by kernel_rfl) (by kernel_rfl) (refused_t (((txt chapB).extract 0 20) ++ (txt (List.replicate 1025 0))) 6 _ ZZ8.out CD8.out (by decide) (Tw7.out.alloc (.cells CX 5))) (fun _ _ => trivial) ?_
        intro Ww8 bw8
        have Yw8 := Lib.hid (Blk.below ((Yw7.out.alloc (.cells CX 5))) bw8 ((Yw7.out.alloc (.cells CX 5))).lt)
        have Tw8 := Lib.hid (Tbl.below (Tw7.out.alloc (.cells CX 5)) bw8)
        have Bw8 := Lib.hid (below_then ((Bw7.out.alloc Bw7.out.size (.cells CX 5))) bw8)
        clear bw8
        refine mix_yields (.bool true) (by kernel_rfl) (fun _ _ => by kernel_rfl) ?_
        refine mix_yields (.bool true) (by kernel_rfl) (fun _ _ => by kernel_rfl) ?_
        refine mix_yields (.string (txt chapB)) (by kernel_rfl) (fun _ _ => by kernel_rfl) ?_
        refine mix_yields (.string ((txt chapB).extract 0 16)) (by kernel_rfl) (fun _ _ => by kernel_rfl) ?_
        refine mix_yields (.string (((txt chapB).extract 0 16) ++ (⟨#[78, 223]⟩ : ByteArray))) (by kernel_rfl) (fun _ _ => by kernel_rfl) ?_
        refine mix_yields (.string (txt chapB)) (by kernel_rfl) (fun _ _ => by kernel_rfl) ?_
        refine mix_yields (.string ((txt chapB).extract 18 21)) (by kernel_rfl) (fun _ _ => by kernel_rfl) ?_
        refine mix_yields (.string ((((txt chapB).extract 0 16) ++ (⟨#[78, 223]⟩ : ByteArray)) ++ ((txt chapB).extract 18 21))) (by kernel_rfl) (fun _ _ => by kernel_rfl) ?_
        refine mix_call (by kernel_rfl) (by kernel_rfl) (refused_t ((((txt chapB).extract 0 16) ++ (⟨#[78, 223]⟩ : ByteArray)) ++ ((txt chapB).extract 18 21)) 10 _ ZZ9.out CD9.out (by decide) Tw8.out) (fun _ _ => trivial) ?_
        intro Ww9 bw9
        have Yw9 := Lib.hid (Blk.below (Yw8.out) bw9 (Yw8.out).lt)
        have Tw9 := Lib.hid (Tbl.below Tw8.out bw9)
        have Bw9 := Lib.hid (below_then (Bw8.out) bw9)
        clear bw9
        refine mix_yields (.bool true) (by kernel_rfl) (fun _ _ => by kernel_rfl) ?_
        refine mix_yields (.bool true) (by kernel_rfl) (fun _ _ => by kernel_rfl) ?_
        refine mix_done ?_
        go_wp2
        go_ret; exact ⟨by kernel_rfl, Bw9.out⟩

set_option maxRecDepth 100000 in
theorem lifted (os : Os) (started : os.Started) (H : Type) (enc : TypeId × Value → H) :
    ReturnsInHanded {} Tryd.checked os 7 .any (fun w args => (Rows.headKnownSpec.pre enc Tryd.prog Tryd.f7 [] false w args ∧ laidMetH Tryd.prog laid1 w) ∧ sizedMet enc Tryd.prog Tryd.f7 (OpenSpec.ofChange Rows.headKnownSpec) false w args)
      (Rows.headKnownSpec.post enc Tryd.prog Tryd.f7 false true false false) := by
  refine returnsInHanded_of_change_and (C := Tryd.checked) (X := fun w _ => laidMetH Tryd.prog laid1 w) (fun _ _ _ hh h => h.of_heap hh) own started (by kernel_rfl) Tryd.func7
    (ChangeSpec.witness_shaped (enc := enc) (C := Tryd.checked) (os := os) (X := fun w _ => laidMetH Tryd.prog laid1 w) false (World.doorLaid Tryd.prog 400 os) #[] 8 rfl (World.shaped_of_RefB (by kernel_rfl) (by kernel_rfl)) (by kernel_rfl) (by kernel_rfl) (by kernel_rfl) (door_met os _)) ?_
  intro W base args ds gs before hval0 hW hcnd hsz0 hL _
  have hsz : (DataW.weightsEach Tryd.prog (Tryd.f7.params.toList ++ Rows.headKnownSpec.plain.varTypes Tryd.prog) (ds ++ gs)).all (· ≤ reachBytes) = true := hsz0
  have ht := table_of hL
  have hval : ∀ (j : Nat) t v, Tryd.f7.params[j]? = some t → args[j]? = some v → Value.okWide Tryd.prog W .any base t v := hval0
  have hW' := hW
  obtain ⟨p, q, hA0, hV, rfl, hfz, hnd⟩ := hW
  have hA : DataW.TrodAll enc Tryd.prog W 0 (fun _ => true) true Tryd.f7.params.toList args.toList ds p := hA0
  rw [Tryd.params7] at hA hval hsz
  obtain ⟨rfl, rfl, rfl⟩ := trodAll_none hA
  obtain ⟨rfl, rfl⟩ := trodVars_none hV
  clear hA0 hval0
  simp only [List.append_nil] at hW'
  refine (walk  W ht).mono fun e W' ⟨he, bel⟩ => ?_
  subst he
  exact ⟨_, rfl, _, _, _, [], _, [], hW', trodAll_mk1 (shut_bool Tryd.underlying4 _), rfl, rfl, bel.frame _, fun h => by cases h⟩

theorem over : Rows.HeadKnownSaid :=
  OpenClaim.holds_of_wide 7 Tryd.f7 rfl rfl rfl rfl rfl rfl rfl ⟨rfl, rfl, rfl, rfl, rfl⟩ rfl rfl rfl rfl rfl (by kernel_rfl) Tryd.func7 (by kernel_rfl)
    (of_decide_eq_true (by kernel_rfl)) (by unfold Func.isWrapper; first | (rw [if_pos (by decide +kernel)]; kernel_rfl) | (rw [if_neg (by decide +kernel)]; exact ⟨rfl, rfl⟩))
    (fun os started H enc _ => lifted os started H enc)

theorem proved : Rows.HeadKnownCardSaid :=
  Claim7.holds_tied_plain_at .later [] [.data] true _ false
    over (fun _ h => by cases h) (by kernel_rfl) (fun _ h => by cases h) headKnown_row_tie rfl ⟨rfl, rfl⟩ (by kernel_rfl) rfl
    (fun f fn hf hfn => by
      obtain rfl : f = 7 := Option.some.inj ((show Tryd.prog.funcNamed "plait/plaitlaw05.HeadKnown" = some 7 by kernel_rfl).symm.trans hf) |>.symm
      obtain rfl : fn = Tryd.f7 := (Option.some.inj (Tryd.func7.symm.trans hfn)).symm
      exact ⟨by kernel_rfl, fun j t ht => by
        rw [Tryd.params7] at ht
        simp at ht⟩)
    (by kernel_rfl)
#print axioms proved
end Go.Proofs.YthdcjcdgddejbaaDoor.headKnown
