/-
  The chapter's examples (works), of the program: they all hold; what 'refused' answers.
-/
import Derived.Test.YthdcjcdgddejbaaDoorHeadParse
namespace Go.Proofs.YthdcjcdgddejbaaDoor
open Go.ChangeShapes Go.WideShapes Go.ChangeAt Go.RowKit
set_option linter.unusedVariables false

theorem wpList_load_row_w {P : Program} {ops : Array Oper} {rest : List Oper} {o : Oper} {a : Act} {w : World} {Q : Exit → Act → World → Prop} (hw : Region.wanted o (yielded ops a.tmps) = true) (ty : TypeId) (x : Operand) (ho : o.op = .load ty x)
    (g : Nat) (hx : a.eval x = .pointer (some ⟨g, 0, none⟩)) (t : TypeId) (cs : Array Value) (fr : Nat × Nat) (d : TypeDesc) (hg : w.heap[g]? = some (.cells cs t fr))
    (hu : P.underlying ty = some d) (hd : (match d with | .struct _ | .array _ _ => true | _ => false) = true) (hi : (P.info? ty).map (·.size) = some cs.size)
    (h : wpList P ops Q rest (a.put o.dst (.agg cs)) w) : wpList P ops Q (o :: rest) a w :=
  BigFrame.wpList_want hw fun _ hK => wp_load_row ty x ho g hx t cs fr d hg hu hd hi (hK _ _ h)

set_option maxHeartbeats 2000000 in
set_option maxRecDepth 100000 in
theorem refused_t (s : ByteArray) (c : Int) (w : World) (hs : s.size ≤ 4611686018427387904) (hc : code s.data.toList = c) (h0 : c ≠ 0) (ht : Tbl w) :
    Calls Tryd.prog 17 #[.string s, .int .i64 c] w fun e w' => e = .returned (.bool true) ∧ Below w.heap.size w w' := by
  have hp := parseV_f _ c hc h0
  have HP := Lib.hid hp
  have HT := Lib.hid ht
  have cc : (c == c) = true := by simp
  clear hp hc h0 ht
  go_enter Tryd.func17, Tryd.ntmps17
  go_wp2_with fail
  refine (Parse_any s _ hs HT.out).mono ?_
  rintro e W1 ⟨rfl, b1⟩
  rw [HP.out]
  have HB := Lib.hid b1
  clear b1
  go_wp2_with (first
    | refine wpList_store_row rfl 25 _ _ rfl W1.heap.size (segv Sg.zero) rfl rfl 25 _ (heap_alloc_new W1 _) seg_size rfl (segv_one _) ?_
    | refine wpList_load_row_w (by rfl) 25 _ rfl W1.heap.size rfl 25 #[.int .i64 0, .int .u16 0, .int .u16 0, .int .u32 0, .int .u32 0, .bool false, .bool false, .bool false, .bool false, .int .u16 0, .string ⟨#[]⟩, .string ⟨#[]⟩] (0, 0) _ (setRow_heap _ W1.heap.size _ (segv Sg.zero) _ _ (heap_alloc_new W1 _)) Tryd.underlying25 rfl seg_size ?_)
  go_ret; exact ⟨rfl, below_setRow (HB.out.alloc HB.out.size _) HB.out.size _⟩

/-- The chapter's segment, and its bytes. -/
def chap : Sg := ⟨0, 1, 2, 3, 4, true, true, false, false, 5, ⟨#[]⟩, ⟨#[97]⟩⟩
def chapB : List UInt8 := [0, 1, 0, 2, 0, 0, 0, 3, 0, 0, 0, 4, 80, 18, 0, 5, 78, 222, 0, 0, 97]
theorem chap_bytes : chap.bytes = chapB := by decide +kernel
theorem chap_lay : chap.lay = .tuple #[.string (txt chapB), .int .i64 0] := by rw [chap.lay_t (by decide), chap_bytes]
theorem chap_code : code chapB = 0 := by decide +kernel
theorem chap_segs : segs chapB = chap := by kernel_rfl
theorem chap_parse : parseV chapB = .tuple #[.agg (segv chap), .int .i64 0] := by rw [parseV_t _ chap_code, chap_segs]
theorem chap_ok : chap.Ok := ⟨by decide, by decide, by decide, by decide, by decide, by decide, by decide⟩
def odd : Sg := { chap with area := ⟨#[97, 98, 99]⟩ }
theorem odd_lay : odd.lay = .tuple #[.string ⟨#[]⟩, .int .i64 6] := odd.lay_f (by decide)
theorem odd_ok : odd.Ok := ⟨by decide, by decide, by decide, by decide, by decide, by decide, by decide⟩
theorem chap_bad : code [0, 1, 0, 2, 0, 0, 0, 3, 0, 0, 0, 4, 80, 18, 0, 5, 78, 222, 0, 0, 98] = 10 := by decide +kernel
theorem chap_short : code [0, 1, 0, 2, 0, 0, 0, 3, 0, 0, 0, 4, 80, 18, 0, 5, 78, 222, 0] = 4 := by decide +kernel

theorem chapter_any (w : World) : Calls Tryd.prog 16 #[] w fun e w' => e = .returned (.tuple #[.agg (segv chap), .string (txt chapB)]) ∧ Below w.heap.size w w' := by
  go_enter Tryd.func16, Tryd.ntmps16
  go_wp2_with (refine wpList_store_row rfl 25 _ _ rfl w.heap.size (segv chap) rfl rfl 25 _ (heap_alloc_new w _) seg_size rfl (segv_one _) ?_)
  rw [World.setRow_alloc_new]
  refine bodyPost_ret (results_row_tmp rfl _ _ w.heap.size 25 (segv chap) (0, 0) _ rfl (heap_alloc_new w _) Tryd.underlying25 rfl seg_size) rfl ⟨rfl, (Below.refl _ w).alloc (Nat.le_refl _) _⟩

set_option maxHeartbeats 4000000 in
set_option maxRecDepth 100000 in
theorem works_any (w : World) (ht : Tbl w) : Calls Tryd.prog 12 #[] w fun e w' => e = .returned (.bool true) ∧ Below w.heap.size w w' := by
  have HT := Lib.hid ht
  clear ht
  obtain ⟨S, hS⟩ : ∃ S, S = txt chapB := ⟨_, rfl⟩
  have hp1 : S.extract 0 20 ++ ⟨#[98]⟩ = ⟨#[0, 1, 0, 2, 0, 0, 0, 3, 0, 0, 0, 4, 80, 18, 0, 5, 78, 222, 0, 0, 98]⟩ := by rw [hS]; decide +kernel
  have hp2 : S.extract 0 19 = ⟨#[0, 1, 0, 2, 0, 0, 0, 3, 0, 0, 0, 4, 80, 18, 0, 5, 78, 222, 0]⟩ := by rw [hS]; decide +kernel
  have sz : S.size = 21 := by rw [hS]; rfl
  have HS := Lib.hid hS
  clear hS
  go_enter Tryd.func12, Tryd.ntmps12
  go_wp2_with fail
  refine (chapter_any _).mono ?_
  rintro e W1 ⟨rfl, b1⟩
  rw [← HS.out]
  have HT1 := Lib.hid (HT.out.below b1)
  have HB1 := Lib.hid b1
  clear b1
  go_wp2_with (first
    | refine wpList_store_row rfl 25 _ _ rfl W1.heap.size (segv chap) rfl rfl 25 _ (heap_alloc_new W1 _) seg_size rfl (segv_one _) ?_
    | refine wpList_load_row rfl 25 _ rfl W1.heap.size rfl 25 (segv chap) (0, 0) _ (setRow_heap _ W1.heap.size _ (segv chap) _ _ (heap_alloc_new W1 _)) Tryd.underlying25 rfl seg_size ?_)
  rw [World.setRow_alloc_new]
  obtain ⟨W2, hW2⟩ : ∃ W2, W2 = W1.alloc (.cells (segv chap) 25) := ⟨_, rfl⟩
  obtain ⟨b, hb⟩ : ∃ b, b = W1.heap.size := ⟨_, rfl⟩
  have X2 : Blk W2 b 25 (segv chap) := by rw [hW2, hb]; exact Blk.new _ _ _
  have HT2 := Lib.hid (show Tbl W2 by rw [hW2]; exact HT1.out.alloc _)
  have HB2 := Lib.hid (show Below w.heap.size w W2 by rw [hW2]; exact HB1.out.alloc HB1.out.size _)
  rw [← hW2, ← hb]
  have HX2 := Lib.hid X2
  clear hW2 hb X2 HB1 HT1
  refine (Lay_any chap _ chap_ok HT2.out).mono ?_
  rintro e W3 ⟨rfl, b3⟩
  rw [chap_lay, ← HS.out]
  have HT3 := Lib.hid (HT2.out.below b3)
  have HX3 := Lib.hid (HX2.out.below b3 HX2.out.lt)
  have HB3 := Lib.hid (below_then HB2.out b3)
  clear b3 HT2 HX2 HB2
  go_wp2_with fail
  refine (Parse_any S _ (by omega) HT3.out).mono ?_
  rintro e W4 ⟨rfl, b4⟩
  rw [show parseV S.data.toList = .tuple #[.agg (segv chap), .int .i64 0] by rw [HS.out]; exact chap_parse]
  have HT4 := Lib.hid (HT3.out.below b4)
  have HX4 := Lib.hid (HX3.out.below b4 HX3.out.lt)
  have HB4 := Lib.hid (below_then HB3.out b4)
  clear b4 HT3 HX3 HB3
  have B4' : Below W4.heap.size W4 ((W4.alloc (.cells #[.int .i64 0, .int .u16 0, .int .u16 0, .int .u32 0, .int .u32 0, .bool false, .bool false, .bool false, .bool false, .int .u16 0, .string ⟨#[]⟩, .string ⟨#[]⟩] 25)).setRow W4.heap.size (segv chap)) := below_setRow ((Below.refl _ W4).alloc (Nat.le_refl _) _) (Nat.le_refl _) _
  have XA := Lib.hid (HX4.out.below B4' HX4.out.lt)
  have XD := Lib.hid (show Blk ((W4.alloc (.cells #[.int .i64 0, .int .u16 0, .int .u16 0, .int .u32 0, .int .u32 0, .bool false, .bool false, .bool false, .bool false, .int .u16 0, .string ⟨#[]⟩, .string ⟨#[]⟩] 25)).setRow W4.heap.size (segv chap)) W4.heap.size 25 (segv chap) from setRow_heap _ W4.heap.size _ (segv chap) _ _ (heap_alloc_new W4 _))
  have TA := Lib.hid (HT4.out.below B4')
  have BA := Lib.hid (below_then HB4.out B4')
  clear B4'
  go_wp2_with (first
    | refine wpList_store_row rfl 25 _ _ rfl W4.heap.size (segv chap) rfl rfl 25 _ (heap_alloc_new W4 _) seg_size rfl (segv_one _) ?_
    | refine wpList_load_row rfl 25 _ rfl b rfl 25 (segv chap) (0, 0) _ XA.out Tryd.underlying25 rfl seg_size ?_)
  refine (Lay_any odd _ odd_ok (TA.out.alloc _)).mono ?_
  rintro e W5 ⟨rfl, b5⟩
  rw [odd_lay]
  have HX5 := Lib.hid ((XA.out.alloc _).below b5 (XA.out.alloc _).lt)
  have HD5 := Lib.hid ((XD.out.alloc _).below b5 (XD.out.alloc _).lt)
  have HT5 := Lib.hid ((TA.out.alloc _).below b5)
  have HB5 := Lib.hid (below_then (BA.out.alloc BA.out.size _) b5)
  clear b5 XA XD TA BA HX4 HT4 HB4
  obtain ⟨d, hd⟩ : ∃ d, d = W4.heap.size := ⟨_, rfl⟩
  rw [← hd] at HD5 ⊢
  clear hd
  have HP1 := Lib.hid hp1
  have HP2 := Lib.hid hp2
  clear hp1 hp2
  go_wp2_with (first
    | refine wpList_load_row_w (by rfl) 25 _ rfl d rfl 25 (segv chap) (0, 0) _ HD5.out Tryd.underlying25 rfl seg_size ?_
    | refine wpList_load_row_w (by rfl) 25 _ rfl b rfl 25 (segv chap) (0, 0) _ HX5.out Tryd.underlying25 rfl seg_size ?_)
  refine (refused_t _ 10 _ (by rw [HP1.out]; decide) (by rw [HP1.out]; exact chap_bad) (by decide) HT5.out).mono ?_
  rintro e W6 ⟨rfl, b6⟩
  have HX6 := Lib.hid (HX5.out.below b6 HX5.out.lt)
  have HT6 := Lib.hid (HT5.out.below b6)
  have HB6 := Lib.hid (below_then HB5.out b6)
  clear b6 HX5 HD5 HT5 HB5
  go_wp2_with fail
  refine (refused_t _ 4 _ (by rw [HP2.out]; decide) (by rw [HP2.out]; exact chap_short) (by decide) HT6.out).mono ?_
  rintro e W7 ⟨rfl, b7⟩
  have HX7 := Lib.hid (HX6.out.below b7 HX6.out.lt)
  have HB7 := Lib.hid (below_then HB6.out b7)
  clear b7 HX6 HT6 HB6
  go_wp2_with (refine wpList_load_row_w (by rfl) 25 _ rfl b rfl 25 (segv chap) (0, 0) _ HX7.out Tryd.underlying25 rfl seg_size ?_)
  refine (Long_any chap _ chap_ok).mono ?_
  rintro e W8 ⟨rfl, b8⟩
  have HB8 := Lib.hid (below_then HB7.out b8)
  rw [show chap.long = 2 from rfl]
  clear b8 HB7 HX7
  go_wp2
  go_ret; exact ⟨rfl, HB8.out⟩
end Go.Proofs.YthdcjcdgddejbaaDoor
