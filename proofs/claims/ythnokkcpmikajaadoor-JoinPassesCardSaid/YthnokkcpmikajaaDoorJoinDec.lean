/-
  What read and Decode of package join answer, each by its walk.
-/
import Derived.Test.YthnokkcpmikajaaDoorJoinEnc
import Derived.Deep.MidRow
namespace Go.Proofs.YthnokkcpmikajaaDoor
open Go.ChangeShapes Go.WideShapes Go.ChangeAt Go.RowKit
set_option linter.unusedVariables false

/-- What was read, as cells: how many bytes, and the option. -/
abbrev cnv (k : Nat) (x : Jn) : Array Value := #[.int .i64 (k : Int), .int .i64 x.form, .bool x.backup, .int .i64 x.id, .int .u32 (x.token : Int), .int .u32 (x.nonce : Int), .string x.mac]
theorem cnv_size : (Tryd.prog.info? 61).map (·.size) = some 7 := by kernel_rfl
theorem cnv_one (k : Nat) (x : Jn) : (cnv k x).all (·.oneCell') = true := by simp [Value.oneCell']
theorem byte_bit : ∀ c : Fin 256, (bits .and .u8 ((c.val : Nat) : Int) 1 != 0) = decide (c.val % 2 = 1) := by decide +kernel
theorem wrap_byte (n : Nat) (h : n < 256) : wrap64 (n : Int) = (n : Int) := by unfold wrap64; omega

/-- Where read stands: its result's block, its cursor, the table. -/
structure Rd (w W : World) (r c : Nat) (s : ByteArray) (k : Nat) : Prop where
  hr : Blk W r 61 (cnv 0 Jn.zero)
  cur : Cur W c s k false
  tb : Tbl W
  hb : Below w.heap.size w W
  rc : r < c
  wr : w.heap.size = r
theorem Rd.move {w W W' : World} {r c : Nat} {s : ByteArray} {k k' : Nat} (h : Rd w W r c s k) (m : Moved W W' c s k' false) : Rd w W' r c s k' :=
  ⟨h.hr.grown m.1 (by have := h.rc; simp; omega), m.2, h.tb.under (below_of_only m.1 (Nat.le_refl c) (Nat.le_of_lt (Blk.lt h.cur))) (by have := h.rc; omega), h.hb.trans (below_of_only m.1 (by have := h.rc; have := h.wr; omega) h.hb.size), h.rc, h.wr⟩
theorem Rd.alloc {w W : World} {r c : Nat} {s : ByteArray} {k : Nat} (h : Rd w W r c s k) (o : Obj) : Rd w (W.alloc o) r c s k :=
  ⟨h.hr.alloc o, Blk.alloc h.cur o, h.tb.alloc o, h.hb.alloc h.hb.size o, h.rc, h.wr⟩
theorem Rd.set {w W : World} {r c : Nat} {s : ByteArray} {k : Nat} (h : Rd w W r c s k) (x i : Nat) (v : Value) (hx : c < x) : Rd w (W.setCell ⟨x, i, none⟩ v) r c s k := by
  have g : ∀ j, j < x → (W.setCell ⟨x, i, none⟩ v).heap[j]? = W.heap[j]? := fun j hj => Below.heap_setCell W ⟨x, i, none⟩ v j (by show j ≠ x; omega)
  have hrc := h.rc
  have hwr := h.wr
  refine ⟨h.hr.same (g _ (by omega)), Blk.same h.cur (g _ hx), ?_, h.hb.setCell (p := ⟨x, i, none⟩) (by show w.heap.size ≤ x; omega) v, h.rc, h.wr⟩
  exact h.tb.under (B := c) ((Below.refl c W).setCell (p := ⟨x, i, none⟩) (by show c ≤ x; omega) v) (by omega)
theorem Rd.row {w W : World} {r c : Nat} {s : ByteArray} {k : Nat} (h : Rd w W r c s k) (x : Nat) (cs : Array Value) (hx : c < x) : Rd w (W.setRow x cs) r c s k := by
  have g : ∀ j, j ≠ x → (W.setRow x cs).heap[j]? = W.heap[j]? := fun j hj => setRow_other W x j cs hj
  have hrc := h.rc
  have hwr := h.wr
  exact ⟨h.hr.same (g _ (by omega)), Blk.same h.cur (g _ (by omega)), h.tb.under (B := c) (below_setRow (Below.refl c W) (Nat.le_of_lt hx) cs) (by omega), below_setRow h.hb (by omega) cs, h.rc, h.wr⟩
/-- The result, laid. -/
theorem read_end (w W : World) (r : Nat) (cs : Array Value) (k : Nat) (x : Jn) {a : Act} (ht : a.tmps.getD 2 undef = .pointer (some ⟨r, 0, none⟩)) (hd : a.defers = []) (hc : cs = cnv k x) (hr : Blk W r 61 (cnv 0 Jn.zero)) (hb : Below w.heap.size w W) (hwr : w.heap.size = r) :
    bodyPost Tryd.prog Tryd.f23 (fun e w' => e = .returned (.agg (cnv k x)) ∧ Below w.heap.size w w') .ret a (W.setRow r cs) := by
  subst hc
  exact bodyPost_ret (results_cell_row rfl _ _ r 61 (cnv k x) (0, 0) _ ht (setRow_heap _ _ _ _ _ _ hr) Tryd.underlying61 rfl cnv_size) hd ⟨rfl, below_setRow hb (by omega) _⟩
set_option maxHeartbeats 1000000 in
set_option maxRecDepth 100000 in
theorem read_10 (s : ByteArray) (hsz : s.size = 10) (w : World) (ht : Tbl w) :
    Calls Tryd.prog 23 #[.string s] w fun e w' => e = .returned (.agg (cnv 10 (got0 (byteAt s 0) (byteAt s 1) (after2 s)))) ∧ Below w.heap.size w w' := by
  have hs : s.size ≤ 9223372036854775807 := by omega
  obtain ⟨r, hr⟩ : ∃ r, r = w.heap.size := ⟨_, rfl⟩
  obtain ⟨w0, hw0⟩ : ∃ w0, w0 = w.alloc (.cells #[.int .i64 0, .int .i64 0, .bool false, .int .i64 0, .int .u32 0, .int .u32 0, .string ⟨#[]⟩] 61) := ⟨_, rfl⟩
  have hz : Blk w0 r 61 (cnv 0 Jn.zero) := by rw [hw0, hr]; exact Blk.new _ _ _
  have hb0 : Below w.heap.size w w0 := by rw [hw0]; exact (Below.refl _ w).alloc (Nat.le_refl _) _
  have ht0 : Tbl w0 := by rw [hw0]; exact ht.alloc _
  have HZ := Lib.hid hz
  have HB0 := Lib.hid hb0
  have HT0 := Lib.hid ht0
  have HR := Lib.hid hr
  have HW0 := Lib.hid hw0
  have HS := Lib.hid hsz
  clear hz hb0 ht0 ht hr hw0 hsz
  go_enter Tryd.func23, Tryd.ntmps23
  go_wp2_with fail
  rw [← HW0.out, ← HR.out]
  refine (Read_new s w0).mono ?_
  rintro e W1 ⟨c, rfl, hc, b, hcur⟩
  have HD1 := Lib.hid (show Rd w W1 r c s 0 from ⟨HZ.out.below b HZ.out.lt, hcur, HT0.out.below b, HB0.out.trans (b.mono HB0.out.size), Nat.lt_of_lt_of_le HZ.out.lt hc, HR.out.symm⟩)
  clear hc b hcur HZ HT0 HB0 HW0
  go_wp2_with fail
  refine (U8_t c s 0 W1 hs (by have := HS.out; omega) HD1.out.cur).mono ?_
  rintro e W2 ⟨rfl, m⟩
  have HD2 := Lib.hid (HD1.out.move m)
  clear m HD1
  go_wp2_with fail
  refine (U8_t c s 1 W2 hs (by have := HS.out; omega) HD2.out.cur).mono ?_
  rintro e W3 ⟨rfl, m⟩
  have HD3 := Lib.hid (HD2.out.move m)
  clear m HD2
  rw [num_1, num_1]
  obtain ⟨F, hF⟩ : ∃ F, F = byteAt s 0 := ⟨_, rfl⟩
  obtain ⟨G, hG⟩ : ∃ G, G = byteAt s 1 := ⟨_, rfl⟩
  have hF8 := byteAt_lt s 0
  have hG8 := byteAt_lt s 1
  rw [← hF] at hF8 ⊢
  rw [← hG] at hG8 ⊢
  obtain ⟨B, hB⟩ : ∃ B, B = decide (F % 2 = 1) := ⟨_, rfl⟩
  have e1 : (bits .and .u8 (F : Int) 1 != 0) = B := by rw [hB]; exact byte_bit ⟨F, hF8⟩
  have e2 := wrap_byte G hG8
  have HF := Lib.hid hF
  have HG := Lib.hid hG
  have HB := Lib.hid hB
  obtain ⟨X, hX⟩ : ∃ X, X = W3.heap.size := ⟨_, rfl⟩
  obtain ⟨W4, hW4⟩ : ∃ W4, W4 = W3.alloc (.cells #[.int .i64 0, .bool B, .int .i64 (G : Int), .int .u32 0, .int .u32 0, .string ⟨#[]⟩] 24) := ⟨_, rfl⟩
  have HX4 := Lib.hid (show Blk W4 X 24 #[.int .i64 0, .bool B, .int .i64 (G : Int), .int .u32 0, .int .u32 0, .string ⟨#[]⟩] by rw [hW4, hX]; exact Blk.new _ _ _)
  have HCX := Lib.hid (show c < X by rw [hX]; exact Blk.lt HD3.out.cur)
  have HD4 := Lib.hid (show Rd w W4 r c s 2 by rw [hW4]; exact HD3.out.alloc _)
  have HXE := Lib.hid hX
  have HW4 := Lib.hid hW4
  clear hF hG hB hF8 hG8 hX hW4 HD3
  go_upto_region 6 with fail
  rw [← HW4.out, ← HXE.out]
  clear e1 e2 HW4 HXE
  have q0 := HD4.out.tb.c0
  have q2 := HD4.out.tb.c2
  have q4 := HD4.out.tb.c4
  have e10 : ((s.size : Int) == 10) = true := by have := HS.out; rw [this]; rfl
  obtain ⟨W5, hW5⟩ : ∃ W, W = W4.setCell ⟨X, 0, none⟩ (.int .i64 0) := ⟨_, rfl⟩
  have HX5 := Lib.hid (show Blk W5 X 24 #[.int .i64 0, .bool B, .int .i64 (G : Int), .int .u32 0, .int .u32 0, .string ⟨#[]⟩] by rw [hW5]; exact HX4.out.set_ 0 _)
  have HD5 := Lib.hid (show Rd w W5 r c s 2 by rw [hW5]; exact HD4.out.set X 0 _ HCX.out)
  have fz5 := HX4.out.frozen 0
  have xc5 := HX4.out.cell 0
  simp only [List.getElem?_toArray, List.getElem?_cons_zero] at xc5
  have HW5 := Lib.hid hW5
  clear hW5
  go_wp2_with fail
  rw [← HW5.out]
  refine (U32_t c s 2 W5 hs (by have := HS.out; omega) HD5.out.cur).mono ?_
  rintro e W6 ⟨rfl, m⟩
  have HD6 := Lib.hid (HD5.out.move m)
  have HX6 := Lib.hid (HX5.out.grown m.1 (by have := HCX.out; simp; omega))
  clear m
  obtain ⟨n1, hn1⟩ : ∃ n, n = num s 2 4 := ⟨_, rfl⟩
  have l1 := num_le_4 s 2
  rw [← hn1] at l1 ⊢
  have HN1 := Lib.hid hn1
  clear hn1
  obtain ⟨W7, hW7⟩ : ∃ W, W = W6.setCell ⟨X, 3, none⟩ (.int .u32 (n1 : Int)) := ⟨_, rfl⟩
  have HX7 := Lib.hid (show Blk W7 X 24 #[.int .i64 0, .bool B, .int .i64 (G : Int), .int .u32 (n1 : Int), .int .u32 0, .string ⟨#[]⟩] by rw [hW7]; exact HX6.out.set_ 3 _)
  have HD7 := Lib.hid (show Rd w W7 r c s 6 by rw [hW7]; exact HD6.out.set X 3 _ HCX.out)
  have fz7 := HX6.out.frozen 3
  have xc7 := HX6.out.cell 3
  simp only [List.getElem?_toArray, List.getElem?_cons_zero, List.getElem?_cons_succ] at xc7
  have HW7 := Lib.hid hW7
  clear hW7
  go_wp2_with fail
  rw [← HW7.out]
  refine (U32_t c s 6 W7 hs (by have := HS.out; omega) HD7.out.cur).mono ?_
  rintro e W8 ⟨rfl, m⟩
  have HD8 := Lib.hid (HD7.out.move m)
  have HX8 := Lib.hid (HX7.out.grown m.1 (by have := HCX.out; simp; omega))
  clear m
  obtain ⟨n2, hn2⟩ : ∃ n, n = num s 6 4 := ⟨_, rfl⟩
  have l2 := num_le_4 s 6
  rw [← hn2] at l2 ⊢
  have HN2 := Lib.hid hn2
  clear hn2
  obtain ⟨W9, hW9⟩ : ∃ W, W = W8.setCell ⟨X, 4, none⟩ (.int .u32 (n2 : Int)) := ⟨_, rfl⟩
  have HX9 := Lib.hid (show Blk W9 X 24 #[.int .i64 0, .bool B, .int .i64 (G : Int), .int .u32 (n1 : Int), .int .u32 (n2 : Int), .string ⟨#[]⟩] by rw [hW9]; exact HX8.out.set_ 4 _)
  have HD9 := Lib.hid (show Rd w W9 r c s 10 by rw [hW9]; exact HD8.out.set X 4 _ HCX.out)
  have fz9 := HX8.out.frozen 4
  have xc9 := HX8.out.cell 4
  simp only [List.getElem?_toArray, List.getElem?_cons_zero, List.getElem?_cons_succ] at xc9
  have HW9 := Lib.hid hW9
  clear hW9
  have ez : (s.size : Int) = 10 := by have := HS.out; omega
  go_wp2_with (first
    | (refine wpList_load_row rfl 24 _ rfl X rfl 24 #[.int .i64 0, .bool B, .int .i64 (G : Int), .int .u32 (n1 : Int), .int .u32 (n2 : Int), .string ⟨#[]⟩] (0, 0) _ ?_ Tryd.underlying24 rfl jn_size ?_; rw [← HW9.out]; exact HX9.out)
    | (refine wpList_store_row rfl 61 _ _ rfl r #[.int .i64 10, .int .i64 0, .bool B, .int .i64 (G : Int), .int .u32 (n1 : Int), .int .u32 (n2 : Int), .string ⟨#[]⟩] rfl rfl 61 (cnv 0 Jn.zero) ?_ cnv_size rfl (by simp [Value.oneCell']) ?_; rw [← HW9.out]; exact HD9.out.hr)
    )
  rw [← HW9.out]
  exact read_end w W9 r _ 10 _ rfl rfl (by show _ = cnv 10 (got0 (byteAt s 0) (byteAt s 1) (after2 s)); simp only [cnv, got0, num_after, HN1.out, HN2.out, HF.out, HG.out, HB.out]; rfl) HD9.out.hr HD9.out.hb HD9.out.wr
set_option maxHeartbeats 1000000 in
set_option maxRecDepth 100000 in
theorem read_14 (s : ByteArray) (hsz : s.size = 14) (w : World) (ht : Tbl w) :
    Calls Tryd.prog 23 #[.string s] w fun e w' => e = .returned (.agg (cnv 14 (got1 (byteAt s 0) (byteAt s 1) (after2 s)))) ∧ Below w.heap.size w w' := by
  have hs : s.size ≤ 9223372036854775807 := by omega
  obtain ⟨r, hr⟩ : ∃ r, r = w.heap.size := ⟨_, rfl⟩
  obtain ⟨w0, hw0⟩ : ∃ w0, w0 = w.alloc (.cells #[.int .i64 0, .int .i64 0, .bool false, .int .i64 0, .int .u32 0, .int .u32 0, .string ⟨#[]⟩] 61) := ⟨_, rfl⟩
  have hz : Blk w0 r 61 (cnv 0 Jn.zero) := by rw [hw0, hr]; exact Blk.new _ _ _
  have hb0 : Below w.heap.size w w0 := by rw [hw0]; exact (Below.refl _ w).alloc (Nat.le_refl _) _
  have ht0 : Tbl w0 := by rw [hw0]; exact ht.alloc _
  have HZ := Lib.hid hz
  have HB0 := Lib.hid hb0
  have HT0 := Lib.hid ht0
  have HR := Lib.hid hr
  have HW0 := Lib.hid hw0
  have HS := Lib.hid hsz
  clear hz hb0 ht0 ht hr hw0 hsz
  go_enter Tryd.func23, Tryd.ntmps23
  go_wp2_with fail
  rw [← HW0.out, ← HR.out]
  refine (Read_new s w0).mono ?_
  rintro e W1 ⟨c, rfl, hc, b, hcur⟩
  have HD1 := Lib.hid (show Rd w W1 r c s 0 from ⟨HZ.out.below b HZ.out.lt, hcur, HT0.out.below b, HB0.out.trans (b.mono HB0.out.size), Nat.lt_of_lt_of_le HZ.out.lt hc, HR.out.symm⟩)
  clear hc b hcur HZ HT0 HB0 HW0
  go_wp2_with fail
  refine (U8_t c s 0 W1 hs (by have := HS.out; omega) HD1.out.cur).mono ?_
  rintro e W2 ⟨rfl, m⟩
  have HD2 := Lib.hid (HD1.out.move m)
  clear m HD1
  go_wp2_with fail
  refine (U8_t c s 1 W2 hs (by have := HS.out; omega) HD2.out.cur).mono ?_
  rintro e W3 ⟨rfl, m⟩
  have HD3 := Lib.hid (HD2.out.move m)
  clear m HD2
  rw [num_1, num_1]
  obtain ⟨F, hF⟩ : ∃ F, F = byteAt s 0 := ⟨_, rfl⟩
  obtain ⟨G, hG⟩ : ∃ G, G = byteAt s 1 := ⟨_, rfl⟩
  have hF8 := byteAt_lt s 0
  have hG8 := byteAt_lt s 1
  rw [← hF] at hF8 ⊢
  rw [← hG] at hG8 ⊢
  obtain ⟨B, hB⟩ : ∃ B, B = decide (F % 2 = 1) := ⟨_, rfl⟩
  have e1 : (bits .and .u8 (F : Int) 1 != 0) = B := by rw [hB]; exact byte_bit ⟨F, hF8⟩
  have e2 := wrap_byte G hG8
  have HF := Lib.hid hF
  have HG := Lib.hid hG
  have HB := Lib.hid hB
  obtain ⟨X, hX⟩ : ∃ X, X = W3.heap.size := ⟨_, rfl⟩
  obtain ⟨W4, hW4⟩ : ∃ W4, W4 = W3.alloc (.cells #[.int .i64 0, .bool B, .int .i64 (G : Int), .int .u32 0, .int .u32 0, .string ⟨#[]⟩] 24) := ⟨_, rfl⟩
  have HX4 := Lib.hid (show Blk W4 X 24 #[.int .i64 0, .bool B, .int .i64 (G : Int), .int .u32 0, .int .u32 0, .string ⟨#[]⟩] by rw [hW4, hX]; exact Blk.new _ _ _)
  have HCX := Lib.hid (show c < X by rw [hX]; exact Blk.lt HD3.out.cur)
  have HD4 := Lib.hid (show Rd w W4 r c s 2 by rw [hW4]; exact HD3.out.alloc _)
  have HXE := Lib.hid hX
  have HW4 := Lib.hid hW4
  clear hF hG hB hF8 hG8 hX hW4 HD3
  go_upto_region 6 with fail
  rw [← HW4.out, ← HXE.out]
  clear e1 e2 HW4 HXE
  have q0 := HD4.out.tb.c0
  have q2 := HD4.out.tb.c2
  have q4 := HD4.out.tb.c4
  have e10 : ((s.size : Int) == 10) = false := by have := HS.out; rw [this]; rfl
  have e14 : ((s.size : Int) == 14) = true := by have := HS.out; rw [this]; rfl
  obtain ⟨W5, hW5⟩ : ∃ W, W = W4.setCell ⟨X, 0, none⟩ (.int .i64 1) := ⟨_, rfl⟩
  have HX5 := Lib.hid (show Blk W5 X 24 #[.int .i64 1, .bool B, .int .i64 (G : Int), .int .u32 0, .int .u32 0, .string ⟨#[]⟩] by rw [hW5]; exact HX4.out.set_ 0 _)
  have HD5 := Lib.hid (show Rd w W5 r c s 2 by rw [hW5]; exact HD4.out.set X 0 _ HCX.out)
  have fz5 := HX4.out.frozen 0
  have xc5 := HX4.out.cell 0
  simp only [List.getElem?_toArray, List.getElem?_cons_zero] at xc5
  have HW5 := Lib.hid hW5
  clear hW5
  have q3 := HD5.out.tb.c3
  rw [HW5.out] at q3
  go_wp2_with fail
  rw [← HW5.out]
  refine (Take_t c s 2 8 W5 hs (by have := HS.out; omega) HD5.out.cur).mono ?_
  rintro e W6 ⟨rfl, m⟩
  have HD6 := Lib.hid (HD5.out.move m)
  have HX6 := Lib.hid (HX5.out.grown m.1 (by have := HCX.out; simp; omega))
  clear m
  obtain ⟨M, hM⟩ : ∃ M, M = s.extract 2 (2 + 8) := ⟨_, rfl⟩
  rw [← hM]
  have HM := Lib.hid hM
  clear hM
  obtain ⟨W7, hW7⟩ : ∃ W, W = W6.setCell ⟨X, 5, none⟩ (.string M) := ⟨_, rfl⟩
  have HX7 := Lib.hid (show Blk W7 X 24 #[.int .i64 1, .bool B, .int .i64 (G : Int), .int .u32 0, .int .u32 0, .string M] by rw [hW7]; exact HX6.out.set_ 5 _)
  have HD7 := Lib.hid (show Rd w W7 r c s 10 by rw [hW7]; exact HD6.out.set X 5 _ HCX.out)
  have fz7 := HX6.out.frozen 5
  have xc7 := HX6.out.cell 5
  simp only [List.getElem?_toArray, List.getElem?_cons_zero, List.getElem?_cons_succ] at xc7
  have HW7 := Lib.hid hW7
  clear hW7
  go_wp2_with fail
  rw [← HW7.out]
  refine (U32_t c s 10 W7 hs (by have := HS.out; omega) HD7.out.cur).mono ?_
  rintro e W8 ⟨rfl, m⟩
  have HD8 := Lib.hid (HD7.out.move m)
  have HX8 := Lib.hid (HX7.out.grown m.1 (by have := HCX.out; simp; omega))
  clear m
  obtain ⟨n2, hn2⟩ : ∃ n, n = num s 10 4 := ⟨_, rfl⟩
  have l2 := num_le_4 s 10
  rw [← hn2] at l2 ⊢
  have HN2 := Lib.hid hn2
  clear hn2
  obtain ⟨W9, hW9⟩ : ∃ W, W = W8.setCell ⟨X, 4, none⟩ (.int .u32 (n2 : Int)) := ⟨_, rfl⟩
  have HX9 := Lib.hid (show Blk W9 X 24 #[.int .i64 1, .bool B, .int .i64 (G : Int), .int .u32 0, .int .u32 (n2 : Int), .string M] by rw [hW9]; exact HX8.out.set_ 4 _)
  have HD9 := Lib.hid (show Rd w W9 r c s 14 by rw [hW9]; exact HD8.out.set X 4 _ HCX.out)
  have fz9 := HX8.out.frozen 4
  have xc9 := HX8.out.cell 4
  simp only [List.getElem?_toArray, List.getElem?_cons_zero, List.getElem?_cons_succ] at xc9
  have HW9 := Lib.hid hW9
  clear hW9
  have ez : (s.size : Int) = 14 := by have := HS.out; omega
  go_wp2_with (first
    | (refine wpList_load_row rfl 24 _ rfl X rfl 24 #[.int .i64 1, .bool B, .int .i64 (G : Int), .int .u32 0, .int .u32 (n2 : Int), .string M] (0, 0) _ ?_ Tryd.underlying24 rfl jn_size ?_; rw [← HW9.out]; exact HX9.out)
    | (refine wpList_store_row rfl 61 _ _ rfl r #[.int .i64 14, .int .i64 1, .bool B, .int .i64 (G : Int), .int .u32 0, .int .u32 (n2 : Int), .string M] rfl rfl 61 (cnv 0 Jn.zero) ?_ cnv_size rfl (by simp [Value.oneCell']) ?_; rw [← HW9.out]; exact HD9.out.hr)
    )
  rw [← HW9.out]
  exact read_end w W9 r _ 14 _ rfl rfl (by show _ = cnv 14 (got1 (byteAt s 0) (byteAt s 1) (after2 s)); simp only [cnv, got1, num_after, ← cut_after, HM.out, HN2.out, HF.out, HG.out, HB.out]; rfl) HD9.out.hr HD9.out.hb HD9.out.wr
set_option maxHeartbeats 1000000 in
set_option maxRecDepth 100000 in
theorem read_22 (s : ByteArray) (hsz : s.size = 22) (w : World) (ht : Tbl w) :
    Calls Tryd.prog 23 #[.string s] w fun e w' => e = .returned (.agg (cnv 22 (got2 (after2 s)))) ∧ Below w.heap.size w w' := by
  have hs : s.size ≤ 9223372036854775807 := by omega
  obtain ⟨r, hr⟩ : ∃ r, r = w.heap.size := ⟨_, rfl⟩
  obtain ⟨w0, hw0⟩ : ∃ w0, w0 = w.alloc (.cells #[.int .i64 0, .int .i64 0, .bool false, .int .i64 0, .int .u32 0, .int .u32 0, .string ⟨#[]⟩] 61) := ⟨_, rfl⟩
  have hz : Blk w0 r 61 (cnv 0 Jn.zero) := by rw [hw0, hr]; exact Blk.new _ _ _
  have hb0 : Below w.heap.size w w0 := by rw [hw0]; exact (Below.refl _ w).alloc (Nat.le_refl _) _
  have ht0 : Tbl w0 := by rw [hw0]; exact ht.alloc _
  have HZ := Lib.hid hz
  have HB0 := Lib.hid hb0
  have HT0 := Lib.hid ht0
  have HR := Lib.hid hr
  have HW0 := Lib.hid hw0
  have HS := Lib.hid hsz
  clear hz hb0 ht0 ht hr hw0 hsz
  go_enter Tryd.func23, Tryd.ntmps23
  go_wp2_with fail
  rw [← HW0.out, ← HR.out]
  refine (Read_new s w0).mono ?_
  rintro e W1 ⟨c, rfl, hc, b, hcur⟩
  have HD1 := Lib.hid (show Rd w W1 r c s 0 from ⟨HZ.out.below b HZ.out.lt, hcur, HT0.out.below b, HB0.out.trans (b.mono HB0.out.size), Nat.lt_of_lt_of_le HZ.out.lt hc, HR.out.symm⟩)
  clear hc b hcur HZ HT0 HB0 HW0
  go_wp2_with fail
  refine (U8_t c s 0 W1 hs (by have := HS.out; omega) HD1.out.cur).mono ?_
  rintro e W2 ⟨rfl, m⟩
  have HD2 := Lib.hid (HD1.out.move m)
  clear m HD1
  go_wp2_with fail
  refine (U8_t c s 1 W2 hs (by have := HS.out; omega) HD2.out.cur).mono ?_
  rintro e W3 ⟨rfl, m⟩
  have HD3 := Lib.hid (HD2.out.move m)
  clear m HD2
  rw [num_1, num_1]
  obtain ⟨F, hF⟩ : ∃ F, F = byteAt s 0 := ⟨_, rfl⟩
  obtain ⟨G, hG⟩ : ∃ G, G = byteAt s 1 := ⟨_, rfl⟩
  have hF8 := byteAt_lt s 0
  have hG8 := byteAt_lt s 1
  rw [← hF] at hF8 ⊢
  rw [← hG] at hG8 ⊢
  obtain ⟨B, hB⟩ : ∃ B, B = decide (F % 2 = 1) := ⟨_, rfl⟩
  have e1 : (bits .and .u8 (F : Int) 1 != 0) = B := by rw [hB]; exact byte_bit ⟨F, hF8⟩
  have e2 := wrap_byte G hG8
  have HF := Lib.hid hF
  have HG := Lib.hid hG
  have HB := Lib.hid hB
  obtain ⟨X, hX⟩ : ∃ X, X = W3.heap.size := ⟨_, rfl⟩
  obtain ⟨W4, hW4⟩ : ∃ W4, W4 = W3.alloc (.cells #[.int .i64 0, .bool B, .int .i64 (G : Int), .int .u32 0, .int .u32 0, .string ⟨#[]⟩] 24) := ⟨_, rfl⟩
  have HX4 := Lib.hid (show Blk W4 X 24 #[.int .i64 0, .bool B, .int .i64 (G : Int), .int .u32 0, .int .u32 0, .string ⟨#[]⟩] by rw [hW4, hX]; exact Blk.new _ _ _)
  have HCX := Lib.hid (show c < X by rw [hX]; exact Blk.lt HD3.out.cur)
  have HD4 := Lib.hid (show Rd w W4 r c s 2 by rw [hW4]; exact HD3.out.alloc _)
  have HXE := Lib.hid hX
  have HW4 := Lib.hid hW4
  clear hF hG hB hF8 hG8 hX hW4 HD3
  go_upto_region 6 with fail
  rw [← HW4.out, ← HXE.out]
  clear e1 e2 HW4 HXE
  have q0 := HD4.out.tb.c0
  have q2 := HD4.out.tb.c2
  have q4 := HD4.out.tb.c4
  have e10 : ((s.size : Int) == 10) = false := by have := HS.out; rw [this]; rfl
  have e14 : ((s.size : Int) == 14) = false := by have := HS.out; rw [this]; rfl
  have e22 : ((s.size : Int) == 22) = true := by have := HS.out; rw [this]; rfl
  have q5 := HD4.out.tb.c5
  go_wp2_with fail
  refine (Take_t c s 2 20 W4 hs (by have := HS.out; omega) HD4.out.cur).mono ?_
  rintro e W5 ⟨rfl, m⟩
  have HD5 := Lib.hid (HD4.out.move m)
  have HX5 := Lib.hid (HX4.out.grown m.1 (by have := HCX.out; simp; omega))
  clear m
  obtain ⟨M, hM⟩ : ∃ M, M = s.extract 2 (2 + 20) := ⟨_, rfl⟩
  rw [← hM]
  have HM := Lib.hid hM
  clear hM
  obtain ⟨W6, hW6⟩ : ∃ W, W = W5.setRow X #[.int .i64 2, .bool false, .int .i64 0, .int .u32 0, .int .u32 0, .string M] := ⟨_, rfl⟩
  have HX6 := Lib.hid (show Blk W6 X 24 #[.int .i64 2, .bool false, .int .i64 0, .int .u32 0, .int .u32 0, .string M] by rw [hW6]; exact setRow_heap _ _ _ _ _ _ HX5.out)
  have HD6 := Lib.hid (show Rd w W6 r c s 22 by rw [hW6]; exact HD5.out.row X _ HCX.out)
  have HW6 := Lib.hid hW6
  clear hW6
  have ez : (s.size : Int) = 22 := by have := HS.out; omega
  go_wp2_with (first
    | (refine wpList_store_row rfl 24 _ _ rfl X #[.int .i64 2, .bool false, .int .i64 0, .int .u32 0, .int .u32 0, .string M] rfl rfl 24 #[.int .i64 0, .bool B, .int .i64 (G : Int), .int .u32 0, .int .u32 0, .string ⟨#[]⟩] ?_ jn_size rfl (by simp [Value.oneCell']) ?_; exact HX5.out)
    | (refine wpList_load_row rfl 24 _ rfl X rfl 24 #[.int .i64 2, .bool false, .int .i64 0, .int .u32 0, .int .u32 0, .string M] (0, 0) _ ?_ Tryd.underlying24 rfl jn_size ?_; rw [← HW6.out]; exact HX6.out)
    | (refine wpList_store_row rfl 61 _ _ rfl r #[.int .i64 22, .int .i64 2, .bool false, .int .i64 0, .int .u32 0, .int .u32 0, .string M] rfl rfl 61 (cnv 0 Jn.zero) ?_ cnv_size rfl (by simp [Value.oneCell']) ?_; rw [← HW6.out]; exact HD6.out.hr)
    )
  rw [← HW6.out]
  exact read_end w W6 r _ 22 _ rfl rfl (by show _ = cnv 22 (got2 (after2 s)); simp only [cnv, got2, HM.out, cut_after, List.take_of_length_le (show (after2 s).length ≤ 20 by have := HS.out; simp [after2]; omega)]; rfl) HD6.out.hr HD6.out.hb HD6.out.wr
set_option maxHeartbeats 1000000 in
set_option maxRecDepth 100000 in
theorem read_no (s : ByteArray) (hs : s.size ≤ 9223372036854775807) (hno : s.size ≠ 10 ∧ s.size ≠ 14 ∧ s.size ≠ 22) (w : World) (ht : Tbl w) :
    Calls Tryd.prog 23 #[.string s] w fun e w' => e = .returned (.agg (cnv 0 Jn.zero)) ∧ Below w.heap.size w w' := by
  obtain ⟨r, hr⟩ : ∃ r, r = w.heap.size := ⟨_, rfl⟩
  obtain ⟨w0, hw0⟩ : ∃ w0, w0 = w.alloc (.cells #[.int .i64 0, .int .i64 0, .bool false, .int .i64 0, .int .u32 0, .int .u32 0, .string ⟨#[]⟩] 61) := ⟨_, rfl⟩
  have hz : Blk w0 r 61 (cnv 0 Jn.zero) := by rw [hw0, hr]; exact Blk.new _ _ _
  have hb0 : Below w.heap.size w w0 := by rw [hw0]; exact (Below.refl _ w).alloc (Nat.le_refl _) _
  have ht0 : Tbl w0 := by rw [hw0]; exact ht.alloc _
  have HZ := Lib.hid hz
  have HB0 := Lib.hid hb0
  have HT0 := Lib.hid ht0
  have HR := Lib.hid hr
  have HW0 := Lib.hid hw0
  have HS := Lib.hid hno
  clear hz hb0 ht0 ht hr hw0 hno
  go_enter Tryd.func23, Tryd.ntmps23
  go_wp2_with fail
  rw [← HW0.out, ← HR.out]
  refine (Read_new s w0).mono ?_
  rintro e W1 ⟨c, rfl, hc, b, hcur⟩
  have hrc : r < c := Nat.lt_of_lt_of_le HZ.out.lt hc
  have HRC := Lib.hid hrc
  have HZ1 := Lib.hid (HZ.out.below b HZ.out.lt)
  have HC1 := Lib.hid hcur
  have HT1 := Lib.hid (HT0.out.below b)
  have HB1 := Lib.hid (HB0.out.trans (b.mono HB0.out.size))
  clear hc b hcur HZ HT0 HB0 HW0 hrc
  go_wp2_with fail
  refine (U8_any c s 0 false W1 hs (by omega) HC1.out).mono ?_
  rintro e W2 ⟨rfl, m⟩
  have HZ2 := Lib.hid (HZ1.out.grown m.1 (by have := HRC.out; simp; omega))
  have HC2 := Lib.hid m.2
  have HT2 := Lib.hid (HT1.out.under (below_of_only m.1 (Nat.le_refl c) (Nat.le_of_lt (Blk.lt HC1.out))) (by have := HRC.out; omega))
  have HB2 := Lib.hid (HB1.out.trans (below_of_only m.1 (by have := HRC.out; have := HR.out; omega) HB1.out.size))
  have hp := posO_le s 0 false ((1 : Nat) : Int) (Nat.zero_le _)
  obtain ⟨F, hF⟩ : ∃ F, F = numO s 0 false 1 := ⟨_, rfl⟩
  have hF8 := numO_le_1 s 0 false
  rw [← hF] at hF8 ⊢
  obtain ⟨k1, hk1⟩ : ∃ k, k = posO s 0 false ((1 : Nat) : Int) := ⟨_, rfl⟩
  obtain ⟨b1, hb1⟩ : ∃ b, b = brO s 0 false ((1 : Nat) : Int) := ⟨_, rfl⟩
  rw [← hk1] at hp
  rw [← hk1, ← hb1] at HC2
  have HP := Lib.hid hp
  clear m HZ1 HC1 HT1 HB1 hF hk1 hb1 hp
  go_wp2_with fail
  refine (U8_any c s k1 b1 W2 hs HP.out HC2.out).mono ?_
  rintro e W3 ⟨rfl, m⟩
  have HZ3 := Lib.hid (HZ2.out.grown m.1 (by have := HRC.out; simp; omega))
  have HT3 := Lib.hid (HT2.out.under (below_of_only m.1 (Nat.le_refl c) (Nat.le_of_lt (Blk.lt HC2.out))) (by have := HRC.out; omega))
  have HB3 := Lib.hid (HB2.out.trans (below_of_only m.1 (by have := HRC.out; have := HR.out; omega) HB2.out.size))
  obtain ⟨G, hG⟩ : ∃ G, G = numO s k1 b1 1 := ⟨_, rfl⟩
  have hG8 := numO_le_1 s k1 b1
  rw [← hG] at hG8 ⊢
  obtain ⟨B, hB⟩ : ∃ B, B = decide (F % 2 = 1) := ⟨_, rfl⟩
  have e1 : (bits .and .u8 (F : Int) 1 != 0) = B := by rw [hB]; exact byte_bit ⟨F, by omega⟩
  have e2 := wrap_byte G (by omega)
  obtain ⟨W4, hW4⟩ : ∃ W4, W4 = W3.alloc (.cells #[.int .i64 0, .bool B, .int .i64 (G : Int), .int .u32 0, .int .u32 0, .string ⟨#[]⟩] 24) := ⟨_, rfl⟩
  have HZ4 := Lib.hid (show Blk W4 r 61 (cnv 0 Jn.zero) by rw [hW4]; exact HZ3.out.alloc _)
  have HT4 := Lib.hid (show Tbl W4 by rw [hW4]; exact HT3.out.alloc _)
  have HB4 := Lib.hid (show Below w.heap.size w W4 by rw [hW4]; exact HB3.out.alloc HB3.out.size _)
  have HW4 := Lib.hid hW4
  clear m hG hG8 hF8 hB hW4 HZ2 HZ3 HT2 HT3 HB2 HB3 HC2 HP
  go_upto_region 6 with fail
  rw [← HW4.out]
  clear e1 e2 HW4
  have q0 := HT4.out.c0
  have q2 := HT4.out.c2
  have q4 := HT4.out.c4
  have e10 : ((s.size : Int) == 10) = false := by have := HS.out; rw [beq_eq_false_iff_ne]; omega
  have e14 : ((s.size : Int) == 14) = false := by have := HS.out; rw [beq_eq_false_iff_ne]; omega
  have e22 : ((s.size : Int) == 22) = false := by have := HS.out; rw [beq_eq_false_iff_ne]; omega
  go_wp2_with (refine wpList_store_row rfl 61 _ _ rfl r #[.int .i64 0, .int .i64 0, .bool false, .int .i64 0, .int .u32 0, .int .u32 0, .string ⟨#[]⟩] rfl rfl 61 (cnv 0 Jn.zero) ?_ cnv_size rfl (by simp [Value.oneCell']) ?_; exact HZ4.out)
  exact read_end w W4 r _ 0 _ rfl rfl rfl HZ4.out HB4.out HR.out.symm
/-- What 'Decode' answers. -/
def decV (s : ByteArray) : Value := .tuple #[.agg (jnv (decJ s).1), .int .i64 (decJ s).2]
theorem decV_eq (s : ByteArray) (x : Jn) (e : Int) (h : decJ s = (x, e)) : decV s = .tuple #[.agg (jnv x), .int .i64 e] := by unfold decV; rw [h]
theorem read_at (s : ByteArray) (hs : s.size ≤ 9223372036854775807) (w : World) (ht : Tbl w) :
    Calls Tryd.prog 23 #[.string s] w fun e w' => (∃ k x, gotOf s = some x ∧ k ≠ 0 ∧ e = .returned (.agg (cnv k x)) ∨ gotOf s = none ∧ k = 0 ∧ x = Jn.zero ∧ e = .returned (.agg (cnv k x))) ∧ Below w.heap.size w w' := by
  by_cases h0 : s.size = 10
  · exact (read_10 s h0 w ht).mono fun e w' h => ⟨⟨10, _, .inl ⟨by unfold gotOf; rw [h0]; rfl, by decide, h.1⟩⟩, h.2⟩
  by_cases h1 : s.size = 14
  · exact (read_14 s h1 w ht).mono fun e w' h => ⟨⟨14, _, .inl ⟨by unfold gotOf; rw [h1]; rfl, by decide, h.1⟩⟩, h.2⟩
  by_cases h2 : s.size = 22
  · exact (read_22 s h2 w ht).mono fun e w' h => ⟨⟨22, _, .inl ⟨by unfold gotOf; rw [h2]; rfl, by decide, h.1⟩⟩, h.2⟩
  · exact (read_no s hs ⟨h0, h1, h2⟩ w ht).mono fun e w' h => ⟨⟨0, _, .inr ⟨by unfold gotOf; exact got_none _ _ _ _ h0 h1 h2, rfl, rfl, h.1⟩⟩, h.2⟩
theorem results_row_tmp {P : Program} {fn : Func} {p t : Tmp} {ty : TypeId} (h : fn.results = #[.cell p ty, .tmp t]) (tmps : Array Value) (w : World) (g : Nat) (t' : TypeId) (cs : Array Value) (fr : Nat × Nat) (d : TypeDesc)
    (hp : tmps.getD p undef = .pointer (some ⟨g, 0, none⟩)) (hg : w.heap[g]? = some (.cells cs t' fr))
    (hu : P.underlying ty = some d) (hd : (match d with | .struct _ | .array _ _ => true | _ => false) = true) (hi : (P.info? ty).map (·.size) = some cs.size) :
    (results fn tmps).run P w = .ok (.tuple #[.agg cs, tmps.getD t undef]) w := by
  have hp' : tmps[p]?.getD undef = .pointer (some ⟨g, 0, none⟩) := by simpa using hp
  simp [results, h, hp', asAddr, run_loadVar_row w g t' ty cs fr d hg hu hd hi]
def Dec (s : ByteArray) (w : World) (e : Ending) (w' : World) : Prop := e = .returned (decV s) ∧ Below w.heap.size w w'
theorem dec_end (s : ByteArray) (w W : World) (r : Nat) (x : Jn) (z : Int) {a : Act} (ht : a.tmps.getD 2 undef = .pointer (some ⟨r, 0, none⟩)) (hz : a.tmps.getD 3 undef = .int .i64 z) (hd : a.defers = []) (cs : Array Value) (hc : cs = jnv x) (old : Array Value) (hr : Blk W r 24 old) (hb : Below w.heap.size w W) (hwr : w.heap.size ≤ r) (hq : decJ s = (x, z)) :
    bodyPost Tryd.prog Tryd.f14 (fun e w' => e = .returned (decV s) ∧ Below w.heap.size w w') .ret a (W.setRow r cs) := by
  subst hc
  have h := results_row_tmp (fn := Tryd.f14) rfl a.tmps (W.setRow r (jnv x)) r 24 (jnv x) (0, 0) _ ht (setRow_heap _ _ _ _ _ _ hr) Tryd.underlying24 rfl jn_size
  rw [hz] at h
  exact bodyPost_ret h hd ⟨by rw [decV_eq s x z hq], below_setRow hb hwr _⟩
set_option maxHeartbeats 1000000 in
set_option maxRecDepth 100000 in
theorem Decode_any (s : ByteArray) (hs : s.size ≤ 9223372036854775807) (w : World) (ht : Tbl w) :
    Calls Tryd.prog 14 #[.string s] w fun e w' => e = .returned (decV s) ∧ Below w.heap.size w w' := by
  obtain ⟨r, hr⟩ : ∃ r, r = w.heap.size := ⟨_, rfl⟩
  obtain ⟨w0, hw0⟩ : ∃ w0, w0 = w.alloc (.cells #[.int .i64 0, .bool false, .int .i64 0, .int .u32 0, .int .u32 0, .string ⟨#[]⟩] 24) := ⟨_, rfl⟩
  have HZ := Lib.hid (show Blk w0 r 24 (jnv Jn.zero) by rw [hw0, hr]; exact Blk.new _ _ _)
  have HB0 := Lib.hid (show Below w.heap.size w w0 by rw [hw0]; exact (Below.refl _ w).alloc (Nat.le_refl _) _)
  have HT0 := Lib.hid (show Tbl w0 by rw [hw0]; exact ht.alloc _)
  have HR := Lib.hid hr
  have HW0 := Lib.hid hw0
  clear hr hw0 ht
  go_enter Tryd.func14, Tryd.ntmps14
  go_upto_region 1 with fail
  rw [← HW0.out, ← HR.out]
  by_cases h0 : s.size = 0
  · have e0 : ((s.size : Int) == 0) = true := by rw [h0]; rfl
    have HD := Lib.hid (decJ_short s h0)
    clear h0
    go_wp2_with (refine wpList_store_row rfl 24 _ _ rfl r (jnv Jn.zero) rfl rfl 24 (jnv Jn.zero) ?_ jn_size rfl (jn_one _) ?_; exact HZ.out)
    exact dec_end s w w0 r Jn.zero 4 rfl rfl rfl _ rfl _ HZ.out HB0.out (Nat.le_of_eq HR.out.symm) HD.out
  · have e0 : ((s.size : Int) == 0) = false := by rw [beq_eq_false_iff_ne]; omega
    have hlt : 0 < s.size := by omega
    have l0 : (0 : Int) < (s.size : Int) := by omega
    have hg := byteAt_get s 0 hlt
    have HN := Lib.hid h0
    clear h0
    by_cases hk : byteAt s 0 / 16 = 1
    · have e1 : ((s[0].toNat : Int) / 16 % 256 != 1) = false := by rw [bne_eq_false_iff_eq]; omega
      have HK := Lib.hid hk
      clear hk hg
      go_wp2_with fail
      refine (read_at s hs w0 HT0.out).mono ?_
      rintro e W1 ⟨⟨k, x, hkx⟩, b⟩
      have HZ1 := Lib.hid (HZ.out.below b HZ.out.lt)
      have HB1 := Lib.hid (HB0.out.trans (b.mono HB0.out.size))
      obtain ⟨g, hg⟩ : ∃ g, g = W1.heap.size := ⟨_, rfl⟩
      rcases hkx with ⟨hgo, hk0, rfl⟩ | ⟨hgo, rfl, rfl, rfl⟩
      · obtain ⟨W2, hW2⟩ : ∃ W2, W2 = W1.alloc (.cells (cnv k x) 61) := ⟨_, rfl⟩
        have hc2 : Blk W2 g 61 (cnv k x) := by rw [hW2, hg]; exact Blk.new _ _ _
        have HZ2 := Lib.hid (show Blk W2 r 24 (jnv Jn.zero) by rw [hW2]; exact HZ1.out.alloc _)
        have HB2 := Lib.hid (show Below w.heap.size w W2 by rw [hW2]; exact HB1.out.alloc HB1.out.size _)
        have hra : W2.rangeAt g 1 (jnv x).toList := fun j u hu => by rw [hc2.cell (1 + j), Nat.add_comm 1 j, ← Array.getElem?_toList]; exact hu
        have HC2 := Lib.hid hc2
        have HRA := Lib.hid hra
        have HD := Lib.hid (decJ_some s x HN.out HK.out hgo)
        have e3 : ((k : Int) == 0) = false := by rw [beq_eq_false_iff_ne]; omega
        have HC2' := hc2
        rw [hW2, hg] at HC2'
        have HCC := Lib.hid HC2'
        have HW2 := Lib.hid hW2
        have HG := Lib.hid hg
        clear b hgo hk0 HC2' hc2 hra hW2 hg
        go_upto_region 6 with fail
        rw [← HW2.out, ← HG.out]
        go_wp2_with (first
          | (refine wpList_load_row rfl 61 _ rfl g rfl 61 (cnv k x) (0, 0) _ ?_ Tryd.underlying61 rfl cnv_size ?_; exact HC2.out)
          | (refine wpList_load_mid rfl 24 _ rfl g 1 ?_ (jnv x).toList _ HRA.out Tryd.underlying24 rfl jn_size ?_; rfl)
          | (refine wpList_store_row rfl 24 _ _ rfl r (jnv x) rfl rfl 24 (jnv Jn.zero) ?_ jn_size rfl (jn_one _) ?_; exact HZ2.out))
        exact dec_end s w W2 r x 0 rfl rfl rfl _ rfl _ HZ2.out HB2.out (Nat.le_of_eq HR.out.symm) HD.out
      · have HD := Lib.hid (decJ_form s HN.out HK.out hgo)
        obtain ⟨W2, hW2⟩ : ∃ W2, W2 = W1.alloc (.cells #[.int .i64 0, .int .i64 Jn.zero.form, .bool Jn.zero.backup, .int .i64 Jn.zero.id, .int .u32 (Jn.zero.token : Int), .int .u32 (Jn.zero.nonce : Int), .string Jn.zero.mac] 61) := ⟨_, rfl⟩
        have HC2 := Lib.hid (show Blk W2 g 61 (cnv 0 Jn.zero) by rw [hW2, hg]; exact Blk.new _ _ _)
        have HZ2 := Lib.hid (show Blk W2 r 24 (jnv Jn.zero) by rw [hW2]; exact HZ1.out.alloc _)
        have HB2 := Lib.hid (show Below w.heap.size w W2 by rw [hW2]; exact HB1.out.alloc HB1.out.size _)
        have HW2 := Lib.hid hW2
        have HG := Lib.hid hg
        clear b hgo hW2 hg
        go_upto_region 6 with fail
        rw [← HW2.out, ← HG.out]
        go_wp2_with (first
          | (refine wpList_load_row rfl 61 _ rfl g rfl 61 #[.int .i64 0, .int .i64 0, .bool false, .int .i64 0, .int .u32 0, .int .u32 0, .string ⟨#[]⟩] (0, 0) _ ?_ Tryd.underlying61 rfl cnv_size ?_; exact HC2.out)
          | (refine wpList_store_row rfl 24 _ _ rfl r (jnv Jn.zero) rfl rfl 24 (jnv Jn.zero) ?_ jn_size rfl (jn_one _) ?_; exact HZ2.out))
        exact dec_end s w W2 r Jn.zero 5 rfl rfl rfl _ rfl _ HZ2.out HB2.out (Nat.le_of_eq HR.out.symm) HD.out
    · have e1 : ((s[0].toNat : Int) / 16 % 256 != 1) = true := by have := byteAt_lt s 0; rw [bne_iff_ne]; omega
      have HD := Lib.hid (decJ_kind s HN.out hk)
      clear hk hg
      go_wp2_with (refine wpList_store_row rfl 24 _ _ rfl r (jnv Jn.zero) rfl rfl 24 (jnv Jn.zero) ?_ jn_size rfl (jn_one _) ?_; exact HZ.out)
      exact dec_end s w w0 r Jn.zero 7 rfl rfl rfl _ rfl _ HZ.out HB0.out (Nat.le_of_eq HR.out.symm) HD.out
end Go.Proofs.YthnokkcpmikajaaDoor
