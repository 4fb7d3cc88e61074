/-
  What the Add of a draft is (plaitlaw12.Draft's Add), by its walk.
-/
import Derived.Test.YtcofdiamlmlhfaaAddrOpen
import Derived.Test.YtcofdiamlmlhfaaAddrRefD
import Derived.Laws.IdiomArrays
import Derived.Laws.Slices
import Derived.Laws.IdiomStrings
import Derived.Laws.CopyOwn
namespace Go.Proofs.Ytcofdiamlmlhfaa
open Go.ChangeShapes Go.WideShapes Go.ChangeAt Go.RowKit
set_option linter.unusedVariables false

theorem drv_0 (d : Dr) : (drv d)[0]? = some (.bool d.echo) := rfl
theorem drv_1 (d : Dr) : (drv d)[1]? = some (.bool d.wide) := rfl
theorem drv_2 (d : Dr) : (drv d)[2]? = some (.bool d.port) := rfl
theorem drv_3 (d : Dr) : (drv d)[3]? = some (.int .u8 (d.id : Int)) := rfl
theorem drv_4 (d : Dr) : (drv d)[4]? = some (.int .u16 (d.n : Int)) := rfl
theorem drv_m (d : Dr) (j : Nat) (hj : j < d.b.length) : (drv d)[5 + j]? = some (.int .u8 (d.b[j].toNat : Int)) := by
  unfold drv
  rw [List.getElem?_toArray, Nat.add_comm 5 j]
  show (d.b.map fun b => Value.int .u8 (b.toNat : Int))[j]? = _
  simp [hj]
theorem arr_len : Try.prog.arrayLen 33 = 24 := by kernel_rfl
theorem arr_elem (w : World) : (sizeOf (Try.prog.elem 33)).run Try.prog w = .ok 1 w := by kernel_rfl
theorem arr_under : Try.prog.underlying 33 = some (.array (Try.prog.arrayLen 33) (Try.prog.elem 33)) := by kernel_rfl
theorem off_add (g o j : Nat) : (⟨g, o, none⟩ : Addr).add j = ⟨g, o + j, none⟩ := by unfold Addr.add; split <;> simp_all
theorem m_front (w : World) (g n : Nat) (hn : n ≤ 24) : (Instr.sliceAt 33 (.pointer (some ⟨g, 5, none⟩)) none (some (.int .i64 (n : Int))) none).run Try.prog w = .ok (.slice (some ⟨g, 5, none⟩) n 24) w := by
  have h := run_sliceAt_array_h (P := Try.prog) w 33 ⟨g, 5, none⟩ arr_under .i64 n (by omega) (by rw [arr_len]; omega)
  rw [h, arr_elem]
  simp only [Result.andThen_ok, slicedAt, arr_len]
  rfl
theorem m_back (w : World) (g : Nat) : (Instr.sliceAt 33 (.pointer (some ⟨g, 5, none⟩)) (some (.int .i64 16)) none none).run Try.prog w = .ok (.slice (some ⟨g, 21, none⟩) 8 8) w := by
  have h := run_sliceAt_array_l (P := Try.prog) w 33 ⟨g, 5, none⟩ arr_under .i64 16 (by omega) (by rw [arr_len]; omega)
  rw [h, arr_elem]
  simp only [Result.andThen_ok, slicedAt, arr_len]
  rfl
theorem m_text (w : World) (g : Nat) (d : Dr) (n cap : Nat) (hn : n ≤ d.b.length) (T : ByteArray) (hT : T = txt (d.b.take n)) (h : Blk w g 35 (drv d)) : (convert 38 9 (.slice (some ⟨g, 5, none⟩) n cap)).run Try.prog w = .ok (.string T) w := by
  have q := run_convert_bytes_back (P := Try.prog) w 38 9 5 ⟨g, 5, none⟩ cap (d.b.take n) Try.underlying38 Try.underlying5 Try.underlying9 (fun j hj => by
    have hj' : j < n ∧ j < d.b.length := by rw [List.length_take] at hj; omega
    rw [off_add, h.cell, drv_m d j hj'.2, List.getElem_take])
  rw [List.length_take, Nat.min_eq_left hn] at q
  rw [hT]
  exact q
theorem m_tail (w : World) (g : Nat) (d : Dr) (hd : d.b.length = 24) (T : ByteArray) (hT : T = txt (d.b.drop 16)) (h : Blk w g 35 (drv d)) : (convert 38 9 (.slice (some ⟨g, 21, none⟩) 8 8)).run Try.prog w = .ok (.string T) w := by
  have hl : (d.b.drop 16).length = 8 := by rw [List.length_drop]; omega
  have q := run_convert_bytes_back (P := Try.prog) w 38 9 5 ⟨g, 21, none⟩ 8 (d.b.drop 16) Try.underlying38 Try.underlying5 Try.underlying9 (fun j hj => by
    have hj' : 16 + j < d.b.length := by omega
    rw [off_add, h.cell, show 21 + j = 5 + (16 + j) by omega, drv_m d (16 + j) hj', List.getElem_drop])
  rw [hl] at q
  rw [hT]
  exact q
theorem conv_u16_int (u : Nat) (h : u ≤ 65535) (w : World) : (convert 32 3 (.int .u16 (u : Int))).run Try.prog w = .ok (.int .i64 (u : Int)) w := by
  rw [run_convert_int w 32 3 .u16 _ (by kernel_rfl) (by kernel_rfl), show Try.prog.intKind 3 = .i64 by kernel_rfl, IntWalk.i64_in _ (by omega)]
theorem dr_end (d : Dr) (w W : World) (r : Nat) {a : Act} (ht : a.tmps.getD 2 undef = .pointer (some ⟨r, 0, none⟩)) (hd : a.defers = []) (cs : Array Value) (hc : cs = adv d.ad) (old : Array Value) (hr : Blk W r 23 old) (hb : Below w.heap.size w W) (hwr : w.heap.size ≤ r) :
    bodyPost Try.prog Try.f14 (fun e w' => e = .returned (.agg (adv d.ad)) ∧ Below w.heap.size w w') .ret a (W.setRow r cs) := by
  subst hc
  exact bodyPost_ret (results_cell_row rfl _ _ r 23 (adv d.ad) (0, 0) _ ht (setRow_heap _ _ _ _ _ _ hr) Try.underlying23 rfl ad_size) hd ⟨rfl, below_setRow hb hwr _⟩
/-- Where Add stands: the draft in b, the answer's variable r, the Add so far in X. -/
structure Da (w W : World) (d : Dr) (b r X : Nat) (cs : Array Value) : Prop where
  src : Blk W b 35 (drv d)
  z : Blk W r 23 (adv .zero)
  x : Blk W X 23 cs
  bel : Below w.heap.size w W
  le : w.heap.size ≤ r ∧ w.heap.size ≤ X
  ne : b ≠ X ∧ r ≠ X
theorem Da.set {w W : World} {d : Dr} {b r X : Nat} {cs : Array Value} (h : Da w W d b r X cs) (i : Nat) (v : Value) : Da w (W.setCell ⟨X, i, none⟩ v) d b r X (cs.setIfInBounds i v) :=
  ⟨h.src.same (Below.heap_setCell W ⟨X, i, none⟩ v b h.ne.1), h.z.same (Below.heap_setCell W ⟨X, i, none⟩ v r h.ne.2), h.x.set_ i v, h.bel.setCell h.le.2 _, h.le, h.ne⟩
set_option maxHeartbeats 1000000 in
set_option maxRecDepth 100000 in
theorem draft_ttt (id n : Nat) (m : List UInt8) (hd : Dr.Ok ⟨true, true, true, id, n, m⟩) (w : World) :
    Calls Try.prog 14 #[.agg (drv (⟨true, true, true, id, n, m⟩ : Dr))] w fun e w' => e = .returned (.agg (adv (Dr.ad (⟨true, true, true, id, n, m⟩ : Dr)))) ∧ Below w.heap.size w w' := by
  obtain ⟨V, hV⟩ : ∃ V, V = (w.alloc (.cells (drv (⟨true, true, true, id, n, m⟩ : Dr)) 35)).alloc (.cells #[.bool false, .int .i64 0, .string ⟨#[]⟩, .bool false, .int .i64 0, .string ⟨#[]⟩] 23) := ⟨_, rfl⟩
  obtain ⟨b0, hb0⟩ : ∃ b0, b0 = w.heap.size := ⟨_, rfl⟩
  obtain ⟨r, hr⟩ : ∃ r, r = w.heap.size + 1 := ⟨_, rfl⟩
  have hx : Blk V b0 35 (drv (⟨true, true, true, id, n, m⟩ : Dr)) := by rw [hV, hb0]; exact (Blk.new _ _ _).alloc _
  have hz : Blk V r 23 #[.bool false, .int .i64 0, .string ⟨#[]⟩, .bool false, .int .i64 0, .string ⟨#[]⟩] := by
    rw [hV, hr]
    have := Blk.new (w.alloc (.cells (drv (⟨true, true, true, id, n, m⟩ : Dr)) 35)) 23 #[.bool false, .int .i64 0, .string ⟨#[]⟩, .bool false, .int .i64 0, .string ⟨#[]⟩]
    simpa using this
  have HX := Lib.hid hx
  have HZ := Lib.hid hz
  have HBV := Lib.hid (show Below w.heap.size w V by rw [hV]; exact ((Below.refl _ w).alloc (Nat.le_refl _) _).alloc (by simp) _)
  have HWR := Lib.hid (show w.heap.size ≤ r by omega)
  obtain ⟨T4, hT4⟩ : ∃ T, T = txt (m.take 4) := ⟨_, rfl⟩
  have HT4 := Lib.hid hT4
  have HVE := Lib.hid hV
  have HB0 := Lib.hid hb0
  have HR := Lib.hid hr
  have HD := Lib.hid hd
  have HM := Lib.hid (show m.length = 24 from hd.b)
  have HN := Lib.hid (show n ≤ 65535 from hd.n)
  clear hV hb0 hr hx hz hd hT4
  go_enter Try.func14, Try.ntmps14
  go_upto_region 1 with fail
  rw [← HVE.out, ← HR.out, ← HB0.out]
  have B0 : Below V.heap.size V V.drew := (Below.refl _ V).drew
  refine walk_start 12 (fun W => Below V.heap.size V W) (by kernel_rfl) (n := 13) rfl ?_
  obtain ⟨W0, hW0⟩ : ∃ W0, W0 = V.drew := ⟨_, rfl⟩
  rw [← hW0] at B0 ⊢
  clear hW0
  refine walk_free 0 (.pointer (some ⟨b0, 0, none⟩)) rfl (by kernel_rfl) (by kernel_rfl) (by kernel_rfl) (by kernel_rfl) (by kernel_rfl) (by kernel_rfl) B0 (fun _ _ => ex_field (v := .pointer (some ⟨b0, 0, none⟩)) 35 (.tmp 1) 0 (by kernel_rfl) (by kernel_rfl) (by kernel_rfl)) ?_
  refine walk_free 1 (.bool true) rfl (by kernel_rfl) (by kernel_rfl) (by kernel_rfl) (by kernel_rfl) (by kernel_rfl) (by kernel_rfl) B0 (fun W b => ex_load 4 (.tmp 4) (by kernel_rfl) ⟨b0, 0, none⟩ (by kernel_rfl) (by kernel_rfl) (((HX.out.below b HX.out.lt).cell 0).trans (drv_0 (⟨true, true, true, id, n, m⟩ : Dr)))) ?_
  refine walk_free 2 (.pointer (some ⟨b0, 3, none⟩)) rfl (by kernel_rfl) (by kernel_rfl) (by kernel_rfl) (by kernel_rfl) (by kernel_rfl) (by kernel_rfl) B0 (fun _ _ => ex_field (v := .pointer (some ⟨b0, 0, none⟩)) 35 (.tmp 1) 3 (by kernel_rfl) (by kernel_rfl) (by kernel_rfl)) ?_
  refine walk_free 3 (.int .u8 (id : Int)) rfl (by kernel_rfl) (by kernel_rfl) (by kernel_rfl) (by kernel_rfl) (by kernel_rfl) (by kernel_rfl) B0 (fun W b => ex_load 5 (.tmp 6) (by kernel_rfl) ⟨b0, 3, none⟩ (by kernel_rfl) (by kernel_rfl) (((HX.out.below b HX.out.lt).cell 3).trans (drv_3 (⟨true, true, true, id, n, m⟩ : Dr)))) ?_
  refine walk_free 4 (.int .i64 (id : Int)) rfl (by kernel_rfl) (by kernel_rfl) (by kernel_rfl) (by kernel_rfl) (by kernel_rfl) (by kernel_rfl) B0 (fun W _ => ex_convert_to (v := .int .u8 (id : Int)) 5 3 (.tmp 7) (by kernel_rfl) (by kernel_rfl) (conv_u8_int id HD.out.id W)) ?_
  refine walk_free 5 (.pointer (some ⟨b0, 5, none⟩)) rfl (by kernel_rfl) (by kernel_rfl) (by kernel_rfl) (by kernel_rfl) (by kernel_rfl) (by kernel_rfl) B0 (fun _ _ => ex_field (v := .pointer (some ⟨b0, 0, none⟩)) 35 (.tmp 1) 5 (by kernel_rfl) (by kernel_rfl) (by kernel_rfl)) ?_
  refine walk_free 6 (.slice (some ⟨b0, 5, none⟩) 4 24) rfl (by kernel_rfl) (by kernel_rfl) (by kernel_rfl) (by kernel_rfl) (by kernel_rfl) (by kernel_rfl) B0 (fun W _ => ex_slice_front (v := .pointer (some ⟨b0, 5, none⟩)) (hv := .int .i64 4) 33 (.tmp 9) (.const (.int .i64 4)) (by kernel_rfl) (by kernel_rfl) (by kernel_rfl) (m_front W b0 4 (by decide))) ?_
  refine walk_free 7 (.string T4) rfl (by kernel_rfl) (by kernel_rfl) (by kernel_rfl) (by kernel_rfl) (by kernel_rfl) (by kernel_rfl) B0 (fun W b => ex_convert_to (v := .slice (some ⟨b0, 5, none⟩) 4 24) 38 9 (.tmp 10) (by kernel_rfl) (by kernel_rfl) (m_text W b0 (⟨true, true, true, id, n, m⟩ : Dr) 4 24 (by have : m.length = 24 := HD.out.b; show 4 ≤ m.length; omega) T4 HT4.out (HX.out.below b HX.out.lt))) ?_
  refine walk_free 8 (.pointer (some ⟨b0, 2, none⟩)) rfl (by kernel_rfl) (by kernel_rfl) (by kernel_rfl) (by kernel_rfl) (by kernel_rfl) (by kernel_rfl) B0 (fun _ _ => ex_field (v := .pointer (some ⟨b0, 0, none⟩)) 35 (.tmp 1) 2 (by kernel_rfl) (by kernel_rfl) (by kernel_rfl)) ?_
  refine walk_free 9 (.bool true) rfl (by kernel_rfl) (by kernel_rfl) (by kernel_rfl) (by kernel_rfl) (by kernel_rfl) (by kernel_rfl) B0 (fun W b => ex_load 4 (.tmp 12) (by kernel_rfl) ⟨b0, 2, none⟩ (by kernel_rfl) (by kernel_rfl) (((HX.out.below b HX.out.lt).cell 2).trans (drv_2 (⟨true, true, true, id, n, m⟩ : Dr)))) ?_
  refine walk_free 10 (.agg #[.bool true, .int .i64 (id : Int), .string T4, .bool true, .int .i64 0, .string ⟨#[]⟩]) rfl (by kernel_rfl) (by kernel_rfl) (by kernel_rfl) (by kernel_rfl) (by kernel_rfl) (by kernel_rfl) B0 (fun _ _ => by kernel_rfl) ?_
  obtain ⟨W1, hW1⟩ : ∃ w', w' = W0.alloc (.cells #[.bool false, .int .i64 0, .string ⟨#[]⟩, .bool false, .int .i64 0, .string ⟨#[]⟩] 23) := ⟨_, rfl⟩
  have N1_1 : Blk W1 W0.heap.size 23 #[.bool false, .int .i64 0, .string ⟨#[]⟩, .bool false, .int .i64 0, .string ⟨#[]⟩] := by rw [hW1]; exact Blk.new _ _ _
  have B1 : Below V.heap.size V W1 := by rw [hW1]; exact B0.alloc B0.size _
  have L1 : V.heap.size ≤ W0.heap.size := B0.size
  refine walk_one 11 (by kernel_rfl) (do_lone (v := .pointer (some ⟨W0.heap.size, 0, none⟩)) (w' := W1) 11 rfl (by kernel_rfl) (by rw [hW1]; exact ex_alloc 23 #[.bool false, .int .i64 0, .string ⟨#[]⟩, .bool false, .int .i64 0, .string ⟨#[]⟩] (by kernel_rfl) (fun _ => by kernel_rfl)) B1 ?_)
  clear hW1
  obtain ⟨X, hX⟩ : ∃ X, X = W0.heap.size := ⟨_, rfl⟩
  rw [← hX] at N1_1
  have LX : V.heap.size ≤ X := by rw [hX]; first | exact L1 | (have := L1; omega)
  refine walk_one 12 (by kernel_rfl) (do_last 12 rfl (by kernel_rfl) (by rw [← hX]; exact ex_store_row 23 (.tmp 3) (.tmp 14) (by kernel_rfl) X #[.bool true, .int .i64 (id : Int), .string T4, .bool true, .int .i64 0, .string ⟨#[]⟩] (by rw [hX]; kernel_rfl) (by kernel_rfl) 23 #[.bool false, .int .i64 0, .string ⟨#[]⟩, .bool false, .int .i64 0, .string ⟨#[]⟩] N1_1 ad_size rfl (by simp [Value.oneCell'])) (by kernel_rfl) ?_)
  refine walk_end_at ⟨#[.agg (drv (⟨true, true, true, id, n, m⟩ : Dr)), .pointer (some ⟨b0, 0, none⟩), .pointer (some ⟨r, 0, none⟩), .pointer (some ⟨W0.heap.size, 0, none⟩), .pointer (some ⟨b0, 0, none⟩), .bool true, .pointer (some ⟨b0, 3, none⟩), .int .u8 (id : Int), .int .i64 (id : Int), .pointer (some ⟨b0, 5, none⟩), .slice (some ⟨b0, 5, none⟩) 4 24, .string T4, .pointer (some ⟨b0, 2, none⟩), .bool true, .agg #[.bool true, .int .i64 (id : Int), .string T4, .bool true, .int .i64 0, .string ⟨#[]⟩], undef, undef, undef, undef, undef, undef, undef, undef, undef, undef, undef, undef, undef, undef, undef, undef, undef, undef, undef, undef], []⟩ (by kernel_rfl) (by kernel_rfl) ?_
  obtain ⟨Y, hY⟩ : ∃ Y, Y = W1.setRow X #[.bool true, .int .i64 (id : Int), .string T4, .bool true, .int .i64 0, .string ⟨#[]⟩] := ⟨_, rfl⟩
  have HY := Lib.hid (show Da w Y (⟨true, true, true, id, n, m⟩ : Dr) b0 r X #[.bool true, .int .i64 (id : Int), .string T4, .bool true, .int .i64 0, .string ⟨#[]⟩] by
    have q1 := HX.out.lt
    have q2 := HZ.out.lt
    have q3 := HWR.out
    have q4 := HBV.out.size
    rw [hY]
    refine ⟨(HX.out.below B1 q1).same (setRow_other _ _ _ _ (by omega)), (HZ.out.below B1 q2).same (setRow_other _ _ _ _ (by omega)), setRow_heap _ _ _ _ _ _ N1_1, below_setRow (HBV.out.trans (B1.mono q4)) (by omega) _, ⟨by omega, by omega⟩, ⟨by omega, by omega⟩⟩)
  rw [← hY, ← hX]
  clear hX LX N1_1 B1
  have hY' := hY
  clear hY'
  clear hY
  have c1 := (HY.out.src.cell 1).trans (drv_1 (⟨true, true, true, id, n, m⟩ : Dr))
  obtain ⟨T16, hT16⟩ : ∃ T, T = txt (m.take 16) := ⟨_, rfl⟩
  have hsl := fun W => m_front W b0 16 (by decide)
  have hcv := m_text Y b0 (⟨true, true, true, id, n, m⟩ : Dr) 16 24 (by have := HM.out; show 16 ≤ m.length; omega) T16 hT16 HY.out.src
  have HT16 := Lib.hid hT16
  clear hT16
  have fz := HY.out.x.frozen 2
  have xc := HY.out.x.cell 2
  simp only [List.getElem?_toArray, List.getElem?_cons_zero, List.getElem?_cons_succ] at xc
  obtain ⟨Y1, hY1⟩ : ∃ U, U = Y.setCell ⟨X, 2, none⟩ (.string T16) := ⟨_, rfl⟩
  have HY1 := Lib.hid (show Da w Y1 (⟨true, true, true, id, n, m⟩ : Dr) b0 r X #[.bool true, .int .i64 (id : Int), .string T16, .bool true, .int .i64 0, .string ⟨#[]⟩] by rw [hY1]; exact HY.out.set 2 (.string T16))
  have HUY1 := Lib.hid hY1
  clear hY1
  go_upto_region 4 with fail
  rw [← HUY1.out]
  clear hsl hcv fz xc c1 HUY1
  have c2 := (HY1.out.src.cell 2).trans (drv_2 (⟨true, true, true, id, n, m⟩ : Dr))
  have c4 := (HY1.out.src.cell 4).trans (drv_4 (⟨true, true, true, id, n, m⟩ : Dr))
  have hcv := conv_u16_int n HN.out
  have fz := HY1.out.x.frozen 4
  have xc := HY1.out.x.cell 4
  simp only [List.getElem?_toArray, List.getElem?_cons_zero, List.getElem?_cons_succ] at xc
  obtain ⟨Y2, hY2⟩ : ∃ U, U = Y1.setCell ⟨X, 4, none⟩ (.int .i64 (n : Int)) := ⟨_, rfl⟩
  have HY2 := Lib.hid (show Da w Y2 (⟨true, true, true, id, n, m⟩ : Dr) b0 r X #[.bool true, .int .i64 (id : Int), .string T16, .bool true, .int .i64 (n : Int), .string ⟨#[]⟩] by rw [hY2]; exact HY1.out.set 4 (.int .i64 (n : Int)))
  have HUY2 := Lib.hid hY2
  clear hY2
  go_upto_region 6 with fail
  rw [← HUY2.out]
  clear hcv fz xc c2 c4 HUY2
  have c0 := (HY2.out.src.cell 0).trans (drv_0 (⟨true, true, true, id, n, m⟩ : Dr))
  go_upto_region 8 with fail
  clear c0
  go_wp2_with (first
    | (refine wpList_load_row rfl 23 _ rfl X rfl 23 #[.bool true, .int .i64 (id : Int), .string T16, .bool true, .int .i64 (n : Int), .string ⟨#[]⟩] (0, 0) _ ?_ Try.underlying23 rfl ad_size ?_; exact HY2.out.x)
    | (refine wpList_store_row rfl 23 _ _ rfl r #[.bool true, .int .i64 (id : Int), .string T16, .bool true, .int .i64 (n : Int), .string ⟨#[]⟩] rfl rfl 23 (adv Ad.zero) ?_ ad_size rfl (by simp [Value.oneCell']) ?_; exact HY2.out.z))
  exact dr_end (⟨true, true, true, id, n, m⟩ : Dr) w Y2 r (by kernel_rfl) (by kernel_rfl) #[.bool true, .int .i64 (id : Int), .string T16, .bool true, .int .i64 (n : Int), .string ⟨#[]⟩] (by rw [HT16.out]; rfl) _ HY2.out.z HY2.out.bel HY2.out.le.1
set_option maxHeartbeats 1000000 in
set_option maxRecDepth 100000 in
theorem draft_ttf (id n : Nat) (m : List UInt8) (hd : Dr.Ok ⟨true, true, false, id, n, m⟩) (w : World) :
    Calls Try.prog 14 #[.agg (drv (⟨true, true, false, id, n, m⟩ : Dr))] w fun e w' => e = .returned (.agg (adv (Dr.ad (⟨true, true, false, id, n, m⟩ : Dr)))) ∧ Below w.heap.size w w' := by
  obtain ⟨V, hV⟩ : ∃ V, V = (w.alloc (.cells (drv (⟨true, true, false, id, n, m⟩ : Dr)) 35)).alloc (.cells #[.bool false, .int .i64 0, .string ⟨#[]⟩, .bool false, .int .i64 0, .string ⟨#[]⟩] 23) := ⟨_, rfl⟩
  obtain ⟨b0, hb0⟩ : ∃ b0, b0 = w.heap.size := ⟨_, rfl⟩
  obtain ⟨r, hr⟩ : ∃ r, r = w.heap.size + 1 := ⟨_, rfl⟩
  have hx : Blk V b0 35 (drv (⟨true, true, false, id, n, m⟩ : Dr)) := by rw [hV, hb0]; exact (Blk.new _ _ _).alloc _
  have hz : Blk V r 23 #[.bool false, .int .i64 0, .string ⟨#[]⟩, .bool false, .int .i64 0, .string ⟨#[]⟩] := by
    rw [hV, hr]
    have := Blk.new (w.alloc (.cells (drv (⟨true, true, false, id, n, m⟩ : Dr)) 35)) 23 #[.bool false, .int .i64 0, .string ⟨#[]⟩, .bool false, .int .i64 0, .string ⟨#[]⟩]
    simpa using this
  have HX := Lib.hid hx
  have HZ := Lib.hid hz
  have HBV := Lib.hid (show Below w.heap.size w V by rw [hV]; exact ((Below.refl _ w).alloc (Nat.le_refl _) _).alloc (by simp) _)
  have HWR := Lib.hid (show w.heap.size ≤ r by omega)
  obtain ⟨T4, hT4⟩ : ∃ T, T = txt (m.take 4) := ⟨_, rfl⟩
  have HT4 := Lib.hid hT4
  have HVE := Lib.hid hV
  have HB0 := Lib.hid hb0
  have HR := Lib.hid hr
  have HD := Lib.hid hd
  have HM := Lib.hid (show m.length = 24 from hd.b)
  have HN := Lib.hid (show n ≤ 65535 from hd.n)
  clear hV hb0 hr hx hz hd hT4
  go_enter Try.func14, Try.ntmps14
  go_upto_region 1 with fail
  rw [← HVE.out, ← HR.out, ← HB0.out]
  have B0 : Below V.heap.size V V.drew := (Below.refl _ V).drew
  refine walk_start 12 (fun W => Below V.heap.size V W) (by kernel_rfl) (n := 13) rfl ?_
  obtain ⟨W0, hW0⟩ : ∃ W0, W0 = V.drew := ⟨_, rfl⟩
  rw [← hW0] at B0 ⊢
  clear hW0
  refine walk_free 0 (.pointer (some ⟨b0, 0, none⟩)) rfl (by kernel_rfl) (by kernel_rfl) (by kernel_rfl) (by kernel_rfl) (by kernel_rfl) (by kernel_rfl) B0 (fun _ _ => ex_field (v := .pointer (some ⟨b0, 0, none⟩)) 35 (.tmp 1) 0 (by kernel_rfl) (by kernel_rfl) (by kernel_rfl)) ?_
  refine walk_free 1 (.bool true) rfl (by kernel_rfl) (by kernel_rfl) (by kernel_rfl) (by kernel_rfl) (by kernel_rfl) (by kernel_rfl) B0 (fun W b => ex_load 4 (.tmp 4) (by kernel_rfl) ⟨b0, 0, none⟩ (by kernel_rfl) (by kernel_rfl) (((HX.out.below b HX.out.lt).cell 0).trans (drv_0 (⟨true, true, false, id, n, m⟩ : Dr)))) ?_
  refine walk_free 2 (.pointer (some ⟨b0, 3, none⟩)) rfl (by kernel_rfl) (by kernel_rfl) (by kernel_rfl) (by kernel_rfl) (by kernel_rfl) (by kernel_rfl) B0 (fun _ _ => ex_field (v := .pointer (some ⟨b0, 0, none⟩)) 35 (.tmp 1) 3 (by kernel_rfl) (by kernel_rfl) (by kernel_rfl)) ?_
  refine walk_free 3 (.int .u8 (id : Int)) rfl (by kernel_rfl) (by kernel_rfl) (by kernel_rfl) (by kernel_rfl) (by kernel_rfl) (by kernel_rfl) B0 (fun W b => ex_load 5 (.tmp 6) (by kernel_rfl) ⟨b0, 3, none⟩ (by kernel_rfl) (by kernel_rfl) (((HX.out.below b HX.out.lt).cell 3).trans (drv_3 (⟨true, true, false, id, n, m⟩ : Dr)))) ?_
  refine walk_free 4 (.int .i64 (id : Int)) rfl (by kernel_rfl) (by kernel_rfl) (by kernel_rfl) (by kernel_rfl) (by kernel_rfl) (by kernel_rfl) B0 (fun W _ => ex_convert_to (v := .int .u8 (id : Int)) 5 3 (.tmp 7) (by kernel_rfl) (by kernel_rfl) (conv_u8_int id HD.out.id W)) ?_
  refine walk_free 5 (.pointer (some ⟨b0, 5, none⟩)) rfl (by kernel_rfl) (by kernel_rfl) (by kernel_rfl) (by kernel_rfl) (by kernel_rfl) (by kernel_rfl) B0 (fun _ _ => ex_field (v := .pointer (some ⟨b0, 0, none⟩)) 35 (.tmp 1) 5 (by kernel_rfl) (by kernel_rfl) (by kernel_rfl)) ?_
  refine walk_free 6 (.slice (some ⟨b0, 5, none⟩) 4 24) rfl (by kernel_rfl) (by kernel_rfl) (by kernel_rfl) (by kernel_rfl) (by kernel_rfl) (by kernel_rfl) B0 (fun W _ => ex_slice_front (v := .pointer (some ⟨b0, 5, none⟩)) (hv := .int .i64 4) 33 (.tmp 9) (.const (.int .i64 4)) (by kernel_rfl) (by kernel_rfl) (by kernel_rfl) (m_front W b0 4 (by decide))) ?_
  refine walk_free 7 (.string T4) rfl (by kernel_rfl) (by kernel_rfl) (by kernel_rfl) (by kernel_rfl) (by kernel_rfl) (by kernel_rfl) B0 (fun W b => ex_convert_to (v := .slice (some ⟨b0, 5, none⟩) 4 24) 38 9 (.tmp 10) (by kernel_rfl) (by kernel_rfl) (m_text W b0 (⟨true, true, false, id, n, m⟩ : Dr) 4 24 (by have : m.length = 24 := HD.out.b; show 4 ≤ m.length; omega) T4 HT4.out (HX.out.below b HX.out.lt))) ?_
  refine walk_free 8 (.pointer (some ⟨b0, 2, none⟩)) rfl (by kernel_rfl) (by kernel_rfl) (by kernel_rfl) (by kernel_rfl) (by kernel_rfl) (by kernel_rfl) B0 (fun _ _ => ex_field (v := .pointer (some ⟨b0, 0, none⟩)) 35 (.tmp 1) 2 (by kernel_rfl) (by kernel_rfl) (by kernel_rfl)) ?_
  refine walk_free 9 (.bool false) rfl (by kernel_rfl) (by kernel_rfl) (by kernel_rfl) (by kernel_rfl) (by kernel_rfl) (by kernel_rfl) B0 (fun W b => ex_load 4 (.tmp 12) (by kernel_rfl) ⟨b0, 2, none⟩ (by kernel_rfl) (by kernel_rfl) (((HX.out.below b HX.out.lt).cell 2).trans (drv_2 (⟨true, true, false, id, n, m⟩ : Dr)))) ?_
  refine walk_free 10 (.agg #[.bool true, .int .i64 (id : Int), .string T4, .bool false, .int .i64 0, .string ⟨#[]⟩]) rfl (by kernel_rfl) (by kernel_rfl) (by kernel_rfl) (by kernel_rfl) (by kernel_rfl) (by kernel_rfl) B0 (fun _ _ => by kernel_rfl) ?_
  obtain ⟨W1, hW1⟩ : ∃ w', w' = W0.alloc (.cells #[.bool false, .int .i64 0, .string ⟨#[]⟩, .bool false, .int .i64 0, .string ⟨#[]⟩] 23) := ⟨_, rfl⟩
  have N1_1 : Blk W1 W0.heap.size 23 #[.bool false, .int .i64 0, .string ⟨#[]⟩, .bool false, .int .i64 0, .string ⟨#[]⟩] := by rw [hW1]; exact Blk.new _ _ _
  have B1 : Below V.heap.size V W1 := by rw [hW1]; exact B0.alloc B0.size _
  have L1 : V.heap.size ≤ W0.heap.size := B0.size
  refine walk_one 11 (by kernel_rfl) (do_lone (v := .pointer (some ⟨W0.heap.size, 0, none⟩)) (w' := W1) 11 rfl (by kernel_rfl) (by rw [hW1]; exact ex_alloc 23 #[.bool false, .int .i64 0, .string ⟨#[]⟩, .bool false, .int .i64 0, .string ⟨#[]⟩] (by kernel_rfl) (fun _ => by kernel_rfl)) B1 ?_)
  clear hW1
  obtain ⟨X, hX⟩ : ∃ X, X = W0.heap.size := ⟨_, rfl⟩
  rw [← hX] at N1_1
  have LX : V.heap.size ≤ X := by rw [hX]; first | exact L1 | (have := L1; omega)
  refine walk_one 12 (by kernel_rfl) (do_last 12 rfl (by kernel_rfl) (by rw [← hX]; exact ex_store_row 23 (.tmp 3) (.tmp 14) (by kernel_rfl) X #[.bool true, .int .i64 (id : Int), .string T4, .bool false, .int .i64 0, .string ⟨#[]⟩] (by rw [hX]; kernel_rfl) (by kernel_rfl) 23 #[.bool false, .int .i64 0, .string ⟨#[]⟩, .bool false, .int .i64 0, .string ⟨#[]⟩] N1_1 ad_size rfl (by simp [Value.oneCell'])) (by kernel_rfl) ?_)
  refine walk_end_at ⟨#[.agg (drv (⟨true, true, false, id, n, m⟩ : Dr)), .pointer (some ⟨b0, 0, none⟩), .pointer (some ⟨r, 0, none⟩), .pointer (some ⟨W0.heap.size, 0, none⟩), .pointer (some ⟨b0, 0, none⟩), .bool true, .pointer (some ⟨b0, 3, none⟩), .int .u8 (id : Int), .int .i64 (id : Int), .pointer (some ⟨b0, 5, none⟩), .slice (some ⟨b0, 5, none⟩) 4 24, .string T4, .pointer (some ⟨b0, 2, none⟩), .bool false, .agg #[.bool true, .int .i64 (id : Int), .string T4, .bool false, .int .i64 0, .string ⟨#[]⟩], undef, undef, undef, undef, undef, undef, undef, undef, undef, undef, undef, undef, undef, undef, undef, undef, undef, undef, undef, undef], []⟩ (by kernel_rfl) (by kernel_rfl) ?_
  obtain ⟨Y, hY⟩ : ∃ Y, Y = W1.setRow X #[.bool true, .int .i64 (id : Int), .string T4, .bool false, .int .i64 0, .string ⟨#[]⟩] := ⟨_, rfl⟩
  have HY := Lib.hid (show Da w Y (⟨true, true, false, id, n, m⟩ : Dr) b0 r X #[.bool true, .int .i64 (id : Int), .string T4, .bool false, .int .i64 0, .string ⟨#[]⟩] by
    have q1 := HX.out.lt
    have q2 := HZ.out.lt
    have q3 := HWR.out
    have q4 := HBV.out.size
    rw [hY]
    refine ⟨(HX.out.below B1 q1).same (setRow_other _ _ _ _ (by omega)), (HZ.out.below B1 q2).same (setRow_other _ _ _ _ (by omega)), setRow_heap _ _ _ _ _ _ N1_1, below_setRow (HBV.out.trans (B1.mono q4)) (by omega) _, ⟨by omega, by omega⟩, ⟨by omega, by omega⟩⟩)
  rw [← hY, ← hX]
  clear hX LX N1_1 B1
  have hY' := hY
  clear hY'
  clear hY
  have c1 := (HY.out.src.cell 1).trans (drv_1 (⟨true, true, false, id, n, m⟩ : Dr))
  obtain ⟨T16, hT16⟩ : ∃ T, T = txt (m.take 16) := ⟨_, rfl⟩
  have hsl := fun W => m_front W b0 16 (by decide)
  have hcv := m_text Y b0 (⟨true, true, false, id, n, m⟩ : Dr) 16 24 (by have := HM.out; show 16 ≤ m.length; omega) T16 hT16 HY.out.src
  have HT16 := Lib.hid hT16
  clear hT16
  have fz := HY.out.x.frozen 2
  have xc := HY.out.x.cell 2
  simp only [List.getElem?_toArray, List.getElem?_cons_zero, List.getElem?_cons_succ] at xc
  obtain ⟨Y1, hY1⟩ : ∃ U, U = Y.setCell ⟨X, 2, none⟩ (.string T16) := ⟨_, rfl⟩
  have HY1 := Lib.hid (show Da w Y1 (⟨true, true, false, id, n, m⟩ : Dr) b0 r X #[.bool true, .int .i64 (id : Int), .string T16, .bool false, .int .i64 0, .string ⟨#[]⟩] by rw [hY1]; exact HY.out.set 2 (.string T16))
  have HUY1 := Lib.hid hY1
  clear hY1
  go_upto_region 4 with fail
  rw [← HUY1.out]
  clear hsl hcv fz xc c1 HUY1
  have c2 := (HY1.out.src.cell 2).trans (drv_2 (⟨true, true, false, id, n, m⟩ : Dr))
  go_upto_region 6 with fail
  clear c2
  have c0 := (HY1.out.src.cell 0).trans (drv_0 (⟨true, true, false, id, n, m⟩ : Dr))
  go_upto_region 8 with fail
  clear c0
  go_wp2_with (first
    | (refine wpList_load_row rfl 23 _ rfl X rfl 23 #[.bool true, .int .i64 (id : Int), .string T16, .bool false, .int .i64 0, .string ⟨#[]⟩] (0, 0) _ ?_ Try.underlying23 rfl ad_size ?_; exact HY1.out.x)
    | (refine wpList_store_row rfl 23 _ _ rfl r #[.bool true, .int .i64 (id : Int), .string T16, .bool false, .int .i64 0, .string ⟨#[]⟩] rfl rfl 23 (adv Ad.zero) ?_ ad_size rfl (by simp [Value.oneCell']) ?_; exact HY1.out.z))
  exact dr_end (⟨true, true, false, id, n, m⟩ : Dr) w Y1 r (by kernel_rfl) (by kernel_rfl) #[.bool true, .int .i64 (id : Int), .string T16, .bool false, .int .i64 0, .string ⟨#[]⟩] (by rw [HT16.out]; rfl) _ HY1.out.z HY1.out.bel HY1.out.le.1
set_option maxHeartbeats 1000000 in
set_option maxRecDepth 100000 in
theorem draft_tft (id n : Nat) (m : List UInt8) (hd : Dr.Ok ⟨true, false, true, id, n, m⟩) (w : World) :
    Calls Try.prog 14 #[.agg (drv (⟨true, false, true, id, n, m⟩ : Dr))] w fun e w' => e = .returned (.agg (adv (Dr.ad (⟨true, false, true, id, n, m⟩ : Dr)))) ∧ Below w.heap.size w w' := by
  obtain ⟨V, hV⟩ : ∃ V, V = (w.alloc (.cells (drv (⟨true, false, true, id, n, m⟩ : Dr)) 35)).alloc (.cells #[.bool false, .int .i64 0, .string ⟨#[]⟩, .bool false, .int .i64 0, .string ⟨#[]⟩] 23) := ⟨_, rfl⟩
  obtain ⟨b0, hb0⟩ : ∃ b0, b0 = w.heap.size := ⟨_, rfl⟩
  obtain ⟨r, hr⟩ : ∃ r, r = w.heap.size + 1 := ⟨_, rfl⟩
  have hx : Blk V b0 35 (drv (⟨true, false, true, id, n, m⟩ : Dr)) := by rw [hV, hb0]; exact (Blk.new _ _ _).alloc _
  have hz : Blk V r 23 #[.bool false, .int .i64 0, .string ⟨#[]⟩, .bool false, .int .i64 0, .string ⟨#[]⟩] := by
    rw [hV, hr]
    have := Blk.new (w.alloc (.cells (drv (⟨true, false, true, id, n, m⟩ : Dr)) 35)) 23 #[.bool false, .int .i64 0, .string ⟨#[]⟩, .bool false, .int .i64 0, .string ⟨#[]⟩]
    simpa using this
  have HX := Lib.hid hx
  have HZ := Lib.hid hz
  have HBV := Lib.hid (show Below w.heap.size w V by rw [hV]; exact ((Below.refl _ w).alloc (Nat.le_refl _) _).alloc (by simp) _)
  have HWR := Lib.hid (show w.heap.size ≤ r by omega)
  obtain ⟨T4, hT4⟩ : ∃ T, T = txt (m.take 4) := ⟨_, rfl⟩
  have HT4 := Lib.hid hT4
  have HVE := Lib.hid hV
  have HB0 := Lib.hid hb0
  have HR := Lib.hid hr
  have HD := Lib.hid hd
  have HM := Lib.hid (show m.length = 24 from hd.b)
  have HN := Lib.hid (show n ≤ 65535 from hd.n)
  clear hV hb0 hr hx hz hd hT4
  go_enter Try.func14, Try.ntmps14
  go_upto_region 1 with fail
  rw [← HVE.out, ← HR.out, ← HB0.out]
  have B0 : Below V.heap.size V V.drew := (Below.refl _ V).drew
  refine walk_start 12 (fun W => Below V.heap.size V W) (by kernel_rfl) (n := 13) rfl ?_
  obtain ⟨W0, hW0⟩ : ∃ W0, W0 = V.drew := ⟨_, rfl⟩
  rw [← hW0] at B0 ⊢
  clear hW0
  refine walk_free 0 (.pointer (some ⟨b0, 0, none⟩)) rfl (by kernel_rfl) (by kernel_rfl) (by kernel_rfl) (by kernel_rfl) (by kernel_rfl) (by kernel_rfl) B0 (fun _ _ => ex_field (v := .pointer (some ⟨b0, 0, none⟩)) 35 (.tmp 1) 0 (by kernel_rfl) (by kernel_rfl) (by kernel_rfl)) ?_
  refine walk_free 1 (.bool true) rfl (by kernel_rfl) (by kernel_rfl) (by kernel_rfl) (by kernel_rfl) (by kernel_rfl) (by kernel_rfl) B0 (fun W b => ex_load 4 (.tmp 4) (by kernel_rfl) ⟨b0, 0, none⟩ (by kernel_rfl) (by kernel_rfl) (((HX.out.below b HX.out.lt).cell 0).trans (drv_0 (⟨true, false, true, id, n, m⟩ : Dr)))) ?_
  refine walk_free 2 (.pointer (some ⟨b0, 3, none⟩)) rfl (by kernel_rfl) (by kernel_rfl) (by kernel_rfl) (by kernel_rfl) (by kernel_rfl) (by kernel_rfl) B0 (fun _ _ => ex_field (v := .pointer (some ⟨b0, 0, none⟩)) 35 (.tmp 1) 3 (by kernel_rfl) (by kernel_rfl) (by kernel_rfl)) ?_
  refine walk_free 3 (.int .u8 (id : Int)) rfl (by kernel_rfl) (by kernel_rfl) (by kernel_rfl) (by kernel_rfl) (by kernel_rfl) (by kernel_rfl) B0 (fun W b => ex_load 5 (.tmp 6) (by kernel_rfl) ⟨b0, 3, none⟩ (by kernel_rfl) (by kernel_rfl) (((HX.out.below b HX.out.lt).cell 3).trans (drv_3 (⟨true, false, true, id, n, m⟩ : Dr)))) ?_
  refine walk_free 4 (.int .i64 (id : Int)) rfl (by kernel_rfl) (by kernel_rfl) (by kernel_rfl) (by kernel_rfl) (by kernel_rfl) (by kernel_rfl) B0 (fun W _ => ex_convert_to (v := .int .u8 (id : Int)) 5 3 (.tmp 7) (by kernel_rfl) (by kernel_rfl) (conv_u8_int id HD.out.id W)) ?_
  refine walk_free 5 (.pointer (some ⟨b0, 5, none⟩)) rfl (by kernel_rfl) (by kernel_rfl) (by kernel_rfl) (by kernel_rfl) (by kernel_rfl) (by kernel_rfl) B0 (fun _ _ => ex_field (v := .pointer (some ⟨b0, 0, none⟩)) 35 (.tmp 1) 5 (by kernel_rfl) (by kernel_rfl) (by kernel_rfl)) ?_
  refine walk_free 6 (.slice (some ⟨b0, 5, none⟩) 4 24) rfl (by kernel_rfl) (by kernel_rfl) (by kernel_rfl) (by kernel_rfl) (by kernel_rfl) (by kernel_rfl) B0 (fun W _ => ex_slice_front (v := .pointer (some ⟨b0, 5, none⟩)) (hv := .int .i64 4) 33 (.tmp 9) (.const (.int .i64 4)) (by kernel_rfl) (by kernel_rfl) (by kernel_rfl) (m_front W b0 4 (by decide))) ?_
  refine walk_free 7 (.string T4) rfl (by kernel_rfl) (by kernel_rfl) (by kernel_rfl) (by kernel_rfl) (by kernel_rfl) (by kernel_rfl) B0 (fun W b => ex_convert_to (v := .slice (some ⟨b0, 5, none⟩) 4 24) 38 9 (.tmp 10) (by kernel_rfl) (by kernel_rfl) (m_text W b0 (⟨true, false, true, id, n, m⟩ : Dr) 4 24 (by have : m.length = 24 := HD.out.b; show 4 ≤ m.length; omega) T4 HT4.out (HX.out.below b HX.out.lt))) ?_
  refine walk_free 8 (.pointer (some ⟨b0, 2, none⟩)) rfl (by kernel_rfl) (by kernel_rfl) (by kernel_rfl) (by kernel_rfl) (by kernel_rfl) (by kernel_rfl) B0 (fun _ _ => ex_field (v := .pointer (some ⟨b0, 0, none⟩)) 35 (.tmp 1) 2 (by kernel_rfl) (by kernel_rfl) (by kernel_rfl)) ?_
  refine walk_free 9 (.bool true) rfl (by kernel_rfl) (by kernel_rfl) (by kernel_rfl) (by kernel_rfl) (by kernel_rfl) (by kernel_rfl) B0 (fun W b => ex_load 4 (.tmp 12) (by kernel_rfl) ⟨b0, 2, none⟩ (by kernel_rfl) (by kernel_rfl) (((HX.out.below b HX.out.lt).cell 2).trans (drv_2 (⟨true, false, true, id, n, m⟩ : Dr)))) ?_
  refine walk_free 10 (.agg #[.bool true, .int .i64 (id : Int), .string T4, .bool true, .int .i64 0, .string ⟨#[]⟩]) rfl (by kernel_rfl) (by kernel_rfl) (by kernel_rfl) (by kernel_rfl) (by kernel_rfl) (by kernel_rfl) B0 (fun _ _ => by kernel_rfl) ?_
  obtain ⟨W1, hW1⟩ : ∃ w', w' = W0.alloc (.cells #[.bool false, .int .i64 0, .string ⟨#[]⟩, .bool false, .int .i64 0, .string ⟨#[]⟩] 23) := ⟨_, rfl⟩
  have N1_1 : Blk W1 W0.heap.size 23 #[.bool false, .int .i64 0, .string ⟨#[]⟩, .bool false, .int .i64 0, .string ⟨#[]⟩] := by rw [hW1]; exact Blk.new _ _ _
  have B1 : Below V.heap.size V W1 := by rw [hW1]; exact B0.alloc B0.size _
  have L1 : V.heap.size ≤ W0.heap.size := B0.size
  refine walk_one 11 (by kernel_rfl) (do_lone (v := .pointer (some ⟨W0.heap.size, 0, none⟩)) (w' := W1) 11 rfl (by kernel_rfl) (by rw [hW1]; exact ex_alloc 23 #[.bool false, .int .i64 0, .string ⟨#[]⟩, .bool false, .int .i64 0, .string ⟨#[]⟩] (by kernel_rfl) (fun _ => by kernel_rfl)) B1 ?_)
  clear hW1
  obtain ⟨X, hX⟩ : ∃ X, X = W0.heap.size := ⟨_, rfl⟩
  rw [← hX] at N1_1
  have LX : V.heap.size ≤ X := by rw [hX]; first | exact L1 | (have := L1; omega)
  refine walk_one 12 (by kernel_rfl) (do_last 12 rfl (by kernel_rfl) (by rw [← hX]; exact ex_store_row 23 (.tmp 3) (.tmp 14) (by kernel_rfl) X #[.bool true, .int .i64 (id : Int), .string T4, .bool true, .int .i64 0, .string ⟨#[]⟩] (by rw [hX]; kernel_rfl) (by kernel_rfl) 23 #[.bool false, .int .i64 0, .string ⟨#[]⟩, .bool false, .int .i64 0, .string ⟨#[]⟩] N1_1 ad_size rfl (by simp [Value.oneCell'])) (by kernel_rfl) ?_)
  refine walk_end_at ⟨#[.agg (drv (⟨true, false, true, id, n, m⟩ : Dr)), .pointer (some ⟨b0, 0, none⟩), .pointer (some ⟨r, 0, none⟩), .pointer (some ⟨W0.heap.size, 0, none⟩), .pointer (some ⟨b0, 0, none⟩), .bool true, .pointer (some ⟨b0, 3, none⟩), .int .u8 (id : Int), .int .i64 (id : Int), .pointer (some ⟨b0, 5, none⟩), .slice (some ⟨b0, 5, none⟩) 4 24, .string T4, .pointer (some ⟨b0, 2, none⟩), .bool true, .agg #[.bool true, .int .i64 (id : Int), .string T4, .bool true, .int .i64 0, .string ⟨#[]⟩], undef, undef, undef, undef, undef, undef, undef, undef, undef, undef, undef, undef, undef, undef, undef, undef, undef, undef, undef, undef], []⟩ (by kernel_rfl) (by kernel_rfl) ?_
  obtain ⟨Y, hY⟩ : ∃ Y, Y = W1.setRow X #[.bool true, .int .i64 (id : Int), .string T4, .bool true, .int .i64 0, .string ⟨#[]⟩] := ⟨_, rfl⟩
  have HY := Lib.hid (show Da w Y (⟨true, false, true, id, n, m⟩ : Dr) b0 r X #[.bool true, .int .i64 (id : Int), .string T4, .bool true, .int .i64 0, .string ⟨#[]⟩] by
    have q1 := HX.out.lt
    have q2 := HZ.out.lt
    have q3 := HWR.out
    have q4 := HBV.out.size
    rw [hY]
    refine ⟨(HX.out.below B1 q1).same (setRow_other _ _ _ _ (by omega)), (HZ.out.below B1 q2).same (setRow_other _ _ _ _ (by omega)), setRow_heap _ _ _ _ _ _ N1_1, below_setRow (HBV.out.trans (B1.mono q4)) (by omega) _, ⟨by omega, by omega⟩, ⟨by omega, by omega⟩⟩)
  rw [← hY, ← hX]
  clear hX LX N1_1 B1
  have hY' := hY
  clear hY'
  clear hY
  have c1 := (HY.out.src.cell 1).trans (drv_1 (⟨true, false, true, id, n, m⟩ : Dr))
  go_upto_region 4 with fail
  clear c1
  have c2 := (HY.out.src.cell 2).trans (drv_2 (⟨true, false, true, id, n, m⟩ : Dr))
  have c4 := (HY.out.src.cell 4).trans (drv_4 (⟨true, false, true, id, n, m⟩ : Dr))
  have hcv := conv_u16_int n HN.out
  have fz := HY.out.x.frozen 4
  have xc := HY.out.x.cell 4
  simp only [List.getElem?_toArray, List.getElem?_cons_zero, List.getElem?_cons_succ] at xc
  obtain ⟨Y1, hY1⟩ : ∃ U, U = Y.setCell ⟨X, 4, none⟩ (.int .i64 (n : Int)) := ⟨_, rfl⟩
  have HY1 := Lib.hid (show Da w Y1 (⟨true, false, true, id, n, m⟩ : Dr) b0 r X #[.bool true, .int .i64 (id : Int), .string T4, .bool true, .int .i64 (n : Int), .string ⟨#[]⟩] by rw [hY1]; exact HY.out.set 4 (.int .i64 (n : Int)))
  have HUY1 := Lib.hid hY1
  clear hY1
  go_upto_region 6 with fail
  rw [← HUY1.out]
  clear hcv fz xc c2 c4 HUY1
  have c0 := (HY1.out.src.cell 0).trans (drv_0 (⟨true, false, true, id, n, m⟩ : Dr))
  go_upto_region 8 with fail
  clear c0
  go_wp2_with (first
    | (refine wpList_load_row rfl 23 _ rfl X rfl 23 #[.bool true, .int .i64 (id : Int), .string T4, .bool true, .int .i64 (n : Int), .string ⟨#[]⟩] (0, 0) _ ?_ Try.underlying23 rfl ad_size ?_; exact HY1.out.x)
    | (refine wpList_store_row rfl 23 _ _ rfl r #[.bool true, .int .i64 (id : Int), .string T4, .bool true, .int .i64 (n : Int), .string ⟨#[]⟩] rfl rfl 23 (adv Ad.zero) ?_ ad_size rfl (by simp [Value.oneCell']) ?_; exact HY1.out.z))
  exact dr_end (⟨true, false, true, id, n, m⟩ : Dr) w Y1 r (by kernel_rfl) (by kernel_rfl) #[.bool true, .int .i64 (id : Int), .string T4, .bool true, .int .i64 (n : Int), .string ⟨#[]⟩] (by rw [HT4.out]; rfl) _ HY1.out.z HY1.out.bel HY1.out.le.1
set_option maxHeartbeats 1000000 in
set_option maxRecDepth 100000 in
theorem draft_tff (id n : Nat) (m : List UInt8) (hd : Dr.Ok ⟨true, false, false, id, n, m⟩) (w : World) :
    Calls Try.prog 14 #[.agg (drv (⟨true, false, false, id, n, m⟩ : Dr))] w fun e w' => e = .returned (.agg (adv (Dr.ad (⟨true, false, false, id, n, m⟩ : Dr)))) ∧ Below w.heap.size w w' := by
  obtain ⟨V, hV⟩ : ∃ V, V = (w.alloc (.cells (drv (⟨true, false, false, id, n, m⟩ : Dr)) 35)).alloc (.cells #[.bool false, .int .i64 0, .string ⟨#[]⟩, .bool false, .int .i64 0, .string ⟨#[]⟩] 23) := ⟨_, rfl⟩
  obtain ⟨b0, hb0⟩ : ∃ b0, b0 = w.heap.size := ⟨_, rfl⟩
  obtain ⟨r, hr⟩ : ∃ r, r = w.heap.size + 1 := ⟨_, rfl⟩
  have hx : Blk V b0 35 (drv (⟨true, false, false, id, n, m⟩ : Dr)) := by rw [hV, hb0]; exact (Blk.new _ _ _).alloc _
  have hz : Blk V r 23 #[.bool false, .int .i64 0, .string ⟨#[]⟩, .bool false, .int .i64 0, .string ⟨#[]⟩] := by
    rw [hV, hr]
    have := Blk.new (w.alloc (.cells (drv (⟨true, false, false, id, n, m⟩ : Dr)) 35)) 23 #[.bool false, .int .i64 0, .string ⟨#[]⟩, .bool false, .int .i64 0, .string ⟨#[]⟩]
    simpa using this
  have HX := Lib.hid hx
  have HZ := Lib.hid hz
  have HBV := Lib.hid (show Below w.heap.size w V by rw [hV]; exact ((Below.refl _ w).alloc (Nat.le_refl _) _).alloc (by simp) _)
  have HWR := Lib.hid (show w.heap.size ≤ r by omega)
  obtain ⟨T4, hT4⟩ : ∃ T, T = txt (m.take 4) := ⟨_, rfl⟩
  have HT4 := Lib.hid hT4
  have HVE := Lib.hid hV
  have HB0 := Lib.hid hb0
  have HR := Lib.hid hr
  have HD := Lib.hid hd
  have HM := Lib.hid (show m.length = 24 from hd.b)
  have HN := Lib.hid (show n ≤ 65535 from hd.n)
  clear hV hb0 hr hx hz hd hT4
  go_enter Try.func14, Try.ntmps14
  go_upto_region 1 with fail
  rw [← HVE.out, ← HR.out, ← HB0.out]
  have B0 : Below V.heap.size V V.drew := (Below.refl _ V).drew
  refine walk_start 12 (fun W => Below V.heap.size V W) (by kernel_rfl) (n := 13) rfl ?_
  obtain ⟨W0, hW0⟩ : ∃ W0, W0 = V.drew := ⟨_, rfl⟩
  rw [← hW0] at B0 ⊢
  clear hW0
  refine walk_free 0 (.pointer (some ⟨b0, 0, none⟩)) rfl (by kernel_rfl) (by kernel_rfl) (by kernel_rfl) (by kernel_rfl) (by kernel_rfl) (by kernel_rfl) B0 (fun _ _ => ex_field (v := .pointer (some ⟨b0, 0, none⟩)) 35 (.tmp 1) 0 (by kernel_rfl) (by kernel_rfl) (by kernel_rfl)) ?_
  refine walk_free 1 (.bool true) rfl (by kernel_rfl) (by kernel_rfl) (by kernel_rfl) (by kernel_rfl) (by kernel_rfl) (by kernel_rfl) B0 (fun W b => ex_load 4 (.tmp 4) (by kernel_rfl) ⟨b0, 0, none⟩ (by kernel_rfl) (by kernel_rfl) (((HX.out.below b HX.out.lt).cell 0).trans (drv_0 (⟨true, false, false, id, n, m⟩ : Dr)))) ?_
  refine walk_free 2 (.pointer (some ⟨b0, 3, none⟩)) rfl (by kernel_rfl) (by kernel_rfl) (by kernel_rfl) (by kernel_rfl) (by kernel_rfl) (by kernel_rfl) B0 (fun _ _ => ex_field (v := .pointer (some ⟨b0, 0, none⟩)) 35 (.tmp 1) 3 (by kernel_rfl) (by kernel_rfl) (by kernel_rfl)) ?_
  refine walk_free 3 (.int .u8 (id : Int)) rfl (by kernel_rfl) (by kernel_rfl) (by kernel_rfl) (by kernel_rfl) (by kernel_rfl) (by kernel_rfl) B0 (fun W b => ex_load 5 (.tmp 6) (by kernel_rfl) ⟨b0, 3, none⟩ (by kernel_rfl) (by kernel_rfl) (((HX.out.below b HX.out.lt).cell 3).trans (drv_3 (⟨true, false, false, id, n, m⟩ : Dr)))) ?_
  refine walk_free 4 (.int .i64 (id : Int)) rfl (by kernel_rfl) (by kernel_rfl) (by kernel_rfl) (by kernel_rfl) (by kernel_rfl) (by kernel_rfl) B0 (fun W _ => ex_convert_to (v := .int .u8 (id : Int)) 5 3 (.tmp 7) (by kernel_rfl) (by kernel_rfl) (conv_u8_int id HD.out.id W)) ?_
  refine walk_free 5 (.pointer (some ⟨b0, 5, none⟩)) rfl (by kernel_rfl) (by kernel_rfl) (by kernel_rfl) (by kernel_rfl) (by kernel_rfl) (by kernel_rfl) B0 (fun _ _ => ex_field (v := .pointer (some ⟨b0, 0, none⟩)) 35 (.tmp 1) 5 (by kernel_rfl) (by kernel_rfl) (by kernel_rfl)) ?_
  refine walk_free 6 (.slice (some ⟨b0, 5, none⟩) 4 24) rfl (by kernel_rfl) (by kernel_rfl) (by kernel_rfl) (by kernel_rfl) (by kernel_rfl) (by kernel_rfl) B0 (fun W _ => ex_slice_front (v := .pointer (some ⟨b0, 5, none⟩)) (hv := .int .i64 4) 33 (.tmp 9) (.const (.int .i64 4)) (by kernel_rfl) (by kernel_rfl) (by kernel_rfl) (m_front W b0 4 (by decide))) ?_
  refine walk_free 7 (.string T4) rfl (by kernel_rfl) (by kernel_rfl) (by kernel_rfl) (by kernel_rfl) (by kernel_rfl) (by kernel_rfl) B0 (fun W b => ex_convert_to (v := .slice (some ⟨b0, 5, none⟩) 4 24) 38 9 (.tmp 10) (by kernel_rfl) (by kernel_rfl) (m_text W b0 (⟨true, false, false, id, n, m⟩ : Dr) 4 24 (by have : m.length = 24 := HD.out.b; show 4 ≤ m.length; omega) T4 HT4.out (HX.out.below b HX.out.lt))) ?_
  refine walk_free 8 (.pointer (some ⟨b0, 2, none⟩)) rfl (by kernel_rfl) (by kernel_rfl) (by kernel_rfl) (by kernel_rfl) (by kernel_rfl) (by kernel_rfl) B0 (fun _ _ => ex_field (v := .pointer (some ⟨b0, 0, none⟩)) 35 (.tmp 1) 2 (by kernel_rfl) (by kernel_rfl) (by kernel_rfl)) ?_
  refine walk_free 9 (.bool false) rfl (by kernel_rfl) (by kernel_rfl) (by kernel_rfl) (by kernel_rfl) (by kernel_rfl) (by kernel_rfl) B0 (fun W b => ex_load 4 (.tmp 12) (by kernel_rfl) ⟨b0, 2, none⟩ (by kernel_rfl) (by kernel_rfl) (((HX.out.below b HX.out.lt).cell 2).trans (drv_2 (⟨true, false, false, id, n, m⟩ : Dr)))) ?_
  refine walk_free 10 (.agg #[.bool true, .int .i64 (id : Int), .string T4, .bool false, .int .i64 0, .string ⟨#[]⟩]) rfl (by kernel_rfl) (by kernel_rfl) (by kernel_rfl) (by kernel_rfl) (by kernel_rfl) (by kernel_rfl) B0 (fun _ _ => by kernel_rfl) ?_
  obtain ⟨W1, hW1⟩ : ∃ w', w' = W0.alloc (.cells #[.bool false, .int .i64 0, .string ⟨#[]⟩, .bool false, .int .i64 0, .string ⟨#[]⟩] 23) := ⟨_, rfl⟩
  have N1_1 : Blk W1 W0.heap.size 23 #[.bool false, .int .i64 0, .string ⟨#[]⟩, .bool false, .int .i64 0, .string ⟨#[]⟩] := by rw [hW1]; exact Blk.new _ _ _
  have B1 : Below V.heap.size V W1 := by rw [hW1]; exact B0.alloc B0.size _
  have L1 : V.heap.size ≤ W0.heap.size := B0.size
  refine walk_one 11 (by kernel_rfl) (do_lone (v := .pointer (some ⟨W0.heap.size, 0, none⟩)) (w' := W1) 11 rfl (by kernel_rfl) (by rw [hW1]; exact ex_alloc 23 #[.bool false, .int .i64 0, .string ⟨#[]⟩, .bool false, .int .i64 0, .string ⟨#[]⟩] (by kernel_rfl) (fun _ => by kernel_rfl)) B1 ?_)
  clear hW1
  obtain ⟨X, hX⟩ : ∃ X, X = W0.heap.size := ⟨_, rfl⟩
  rw [← hX] at N1_1
  have LX : V.heap.size ≤ X := by rw [hX]; first | exact L1 | (have := L1; omega)
  refine walk_one 12 (by kernel_rfl) (do_last 12 rfl (by kernel_rfl) (by rw [← hX]; exact ex_store_row 23 (.tmp 3) (.tmp 14) (by kernel_rfl) X #[.bool true, .int .i64 (id : Int), .string T4, .bool false, .int .i64 0, .string ⟨#[]⟩] (by rw [hX]; kernel_rfl) (by kernel_rfl) 23 #[.bool false, .int .i64 0, .string ⟨#[]⟩, .bool false, .int .i64 0, .string ⟨#[]⟩] N1_1 ad_size rfl (by simp [Value.oneCell'])) (by kernel_rfl) ?_)
  refine walk_end_at ⟨#[.agg (drv (⟨true, false, false, id, n, m⟩ : Dr)), .pointer (some ⟨b0, 0, none⟩), .pointer (some ⟨r, 0, none⟩), .pointer (some ⟨W0.heap.size, 0, none⟩), .pointer (some ⟨b0, 0, none⟩), .bool true, .pointer (some ⟨b0, 3, none⟩), .int .u8 (id : Int), .int .i64 (id : Int), .pointer (some ⟨b0, 5, none⟩), .slice (some ⟨b0, 5, none⟩) 4 24, .string T4, .pointer (some ⟨b0, 2, none⟩), .bool false, .agg #[.bool true, .int .i64 (id : Int), .string T4, .bool false, .int .i64 0, .string ⟨#[]⟩], undef, undef, undef, undef, undef, undef, undef, undef, undef, undef, undef, undef, undef, undef, undef, undef, undef, undef, undef, undef], []⟩ (by kernel_rfl) (by kernel_rfl) ?_
  obtain ⟨Y, hY⟩ : ∃ Y, Y = W1.setRow X #[.bool true, .int .i64 (id : Int), .string T4, .bool false, .int .i64 0, .string ⟨#[]⟩] := ⟨_, rfl⟩
  have HY := Lib.hid (show Da w Y (⟨true, false, false, id, n, m⟩ : Dr) b0 r X #[.bool true, .int .i64 (id : Int), .string T4, .bool false, .int .i64 0, .string ⟨#[]⟩] by
    have q1 := HX.out.lt
    have q2 := HZ.out.lt
    have q3 := HWR.out
    have q4 := HBV.out.size
    rw [hY]
    refine ⟨(HX.out.below B1 q1).same (setRow_other _ _ _ _ (by omega)), (HZ.out.below B1 q2).same (setRow_other _ _ _ _ (by omega)), setRow_heap _ _ _ _ _ _ N1_1, below_setRow (HBV.out.trans (B1.mono q4)) (by omega) _, ⟨by omega, by omega⟩, ⟨by omega, by omega⟩⟩)
  rw [← hY, ← hX]
  clear hX LX N1_1 B1
  have hY' := hY
  clear hY'
  clear hY
  have c1 := (HY.out.src.cell 1).trans (drv_1 (⟨true, false, false, id, n, m⟩ : Dr))
  go_upto_region 4 with fail
  clear c1
  have c2 := (HY.out.src.cell 2).trans (drv_2 (⟨true, false, false, id, n, m⟩ : Dr))
  go_upto_region 6 with fail
  clear c2
  have c0 := (HY.out.src.cell 0).trans (drv_0 (⟨true, false, false, id, n, m⟩ : Dr))
  go_upto_region 8 with fail
  clear c0
  go_wp2_with (first
    | (refine wpList_load_row rfl 23 _ rfl X rfl 23 #[.bool true, .int .i64 (id : Int), .string T4, .bool false, .int .i64 0, .string ⟨#[]⟩] (0, 0) _ ?_ Try.underlying23 rfl ad_size ?_; exact HY.out.x)
    | (refine wpList_store_row rfl 23 _ _ rfl r #[.bool true, .int .i64 (id : Int), .string T4, .bool false, .int .i64 0, .string ⟨#[]⟩] rfl rfl 23 (adv Ad.zero) ?_ ad_size rfl (by simp [Value.oneCell']) ?_; exact HY.out.z))
  exact dr_end (⟨true, false, false, id, n, m⟩ : Dr) w Y r (by kernel_rfl) (by kernel_rfl) #[.bool true, .int .i64 (id : Int), .string T4, .bool false, .int .i64 0, .string ⟨#[]⟩] (by rw [HT4.out]; rfl) _ HY.out.z HY.out.bel HY.out.le.1
set_option maxHeartbeats 1000000 in
set_option maxRecDepth 100000 in
theorem draft_ftt (id n : Nat) (m : List UInt8) (hd : Dr.Ok ⟨false, true, true, id, n, m⟩) (w : World) :
    Calls Try.prog 14 #[.agg (drv (⟨false, true, true, id, n, m⟩ : Dr))] w fun e w' => e = .returned (.agg (adv (Dr.ad (⟨false, true, true, id, n, m⟩ : Dr)))) ∧ Below w.heap.size w w' := by
  obtain ⟨V, hV⟩ : ∃ V, V = (w.alloc (.cells (drv (⟨false, true, true, id, n, m⟩ : Dr)) 35)).alloc (.cells #[.bool false, .int .i64 0, .string ⟨#[]⟩, .bool false, .int .i64 0, .string ⟨#[]⟩] 23) := ⟨_, rfl⟩
  obtain ⟨b0, hb0⟩ : ∃ b0, b0 = w.heap.size := ⟨_, rfl⟩
  obtain ⟨r, hr⟩ : ∃ r, r = w.heap.size + 1 := ⟨_, rfl⟩
  have hx : Blk V b0 35 (drv (⟨false, true, true, id, n, m⟩ : Dr)) := by rw [hV, hb0]; exact (Blk.new _ _ _).alloc _
  have hz : Blk V r 23 #[.bool false, .int .i64 0, .string ⟨#[]⟩, .bool false, .int .i64 0, .string ⟨#[]⟩] := by
    rw [hV, hr]
    have := Blk.new (w.alloc (.cells (drv (⟨false, true, true, id, n, m⟩ : Dr)) 35)) 23 #[.bool false, .int .i64 0, .string ⟨#[]⟩, .bool false, .int .i64 0, .string ⟨#[]⟩]
    simpa using this
  have HX := Lib.hid hx
  have HZ := Lib.hid hz
  have HBV := Lib.hid (show Below w.heap.size w V by rw [hV]; exact ((Below.refl _ w).alloc (Nat.le_refl _) _).alloc (by simp) _)
  have HWR := Lib.hid (show w.heap.size ≤ r by omega)
  obtain ⟨T4, hT4⟩ : ∃ T, T = txt (m.take 4) := ⟨_, rfl⟩
  have HT4 := Lib.hid hT4
  have HVE := Lib.hid hV
  have HB0 := Lib.hid hb0
  have HR := Lib.hid hr
  have HD := Lib.hid hd
  have HM := Lib.hid (show m.length = 24 from hd.b)
  have HN := Lib.hid (show n ≤ 65535 from hd.n)
  clear hV hb0 hr hx hz hd hT4
  go_enter Try.func14, Try.ntmps14
  go_upto_region 1 with fail
  rw [← HVE.out, ← HR.out, ← HB0.out]
  have B0 : Below V.heap.size V V.drew := (Below.refl _ V).drew
  refine walk_start 12 (fun W => Below V.heap.size V W) (by kernel_rfl) (n := 13) rfl ?_
  obtain ⟨W0, hW0⟩ : ∃ W0, W0 = V.drew := ⟨_, rfl⟩
  rw [← hW0] at B0 ⊢
  clear hW0
  refine walk_free 0 (.pointer (some ⟨b0, 0, none⟩)) rfl (by kernel_rfl) (by kernel_rfl) (by kernel_rfl) (by kernel_rfl) (by kernel_rfl) (by kernel_rfl) B0 (fun _ _ => ex_field (v := .pointer (some ⟨b0, 0, none⟩)) 35 (.tmp 1) 0 (by kernel_rfl) (by kernel_rfl) (by kernel_rfl)) ?_
  refine walk_free 1 (.bool false) rfl (by kernel_rfl) (by kernel_rfl) (by kernel_rfl) (by kernel_rfl) (by kernel_rfl) (by kernel_rfl) B0 (fun W b => ex_load 4 (.tmp 4) (by kernel_rfl) ⟨b0, 0, none⟩ (by kernel_rfl) (by kernel_rfl) (((HX.out.below b HX.out.lt).cell 0).trans (drv_0 (⟨false, true, true, id, n, m⟩ : Dr)))) ?_
  refine walk_free 2 (.pointer (some ⟨b0, 3, none⟩)) rfl (by kernel_rfl) (by kernel_rfl) (by kernel_rfl) (by kernel_rfl) (by kernel_rfl) (by kernel_rfl) B0 (fun _ _ => ex_field (v := .pointer (some ⟨b0, 0, none⟩)) 35 (.tmp 1) 3 (by kernel_rfl) (by kernel_rfl) (by kernel_rfl)) ?_
  refine walk_free 3 (.int .u8 (id : Int)) rfl (by kernel_rfl) (by kernel_rfl) (by kernel_rfl) (by kernel_rfl) (by kernel_rfl) (by kernel_rfl) B0 (fun W b => ex_load 5 (.tmp 6) (by kernel_rfl) ⟨b0, 3, none⟩ (by kernel_rfl) (by kernel_rfl) (((HX.out.below b HX.out.lt).cell 3).trans (drv_3 (⟨false, true, true, id, n, m⟩ : Dr)))) ?_
  refine walk_free 4 (.int .i64 (id : Int)) rfl (by kernel_rfl) (by kernel_rfl) (by kernel_rfl) (by kernel_rfl) (by kernel_rfl) (by kernel_rfl) B0 (fun W _ => ex_convert_to (v := .int .u8 (id : Int)) 5 3 (.tmp 7) (by kernel_rfl) (by kernel_rfl) (conv_u8_int id HD.out.id W)) ?_
  refine walk_free 5 (.pointer (some ⟨b0, 5, none⟩)) rfl (by kernel_rfl) (by kernel_rfl) (by kernel_rfl) (by kernel_rfl) (by kernel_rfl) (by kernel_rfl) B0 (fun _ _ => ex_field (v := .pointer (some ⟨b0, 0, none⟩)) 35 (.tmp 1) 5 (by kernel_rfl) (by kernel_rfl) (by kernel_rfl)) ?_
  refine walk_free 6 (.slice (some ⟨b0, 5, none⟩) 4 24) rfl (by kernel_rfl) (by kernel_rfl) (by kernel_rfl) (by kernel_rfl) (by kernel_rfl) (by kernel_rfl) B0 (fun W _ => ex_slice_front (v := .pointer (some ⟨b0, 5, none⟩)) (hv := .int .i64 4) 33 (.tmp 9) (.const (.int .i64 4)) (by kernel_rfl) (by kernel_rfl) (by kernel_rfl) (m_front W b0 4 (by decide))) ?_
  refine walk_free 7 (.string T4) rfl (by kernel_rfl) (by kernel_rfl) (by kernel_rfl) (by kernel_rfl) (by kernel_rfl) (by kernel_rfl) B0 (fun W b => ex_convert_to (v := .slice (some ⟨b0, 5, none⟩) 4 24) 38 9 (.tmp 10) (by kernel_rfl) (by kernel_rfl) (m_text W b0 (⟨false, true, true, id, n, m⟩ : Dr) 4 24 (by have : m.length = 24 := HD.out.b; show 4 ≤ m.length; omega) T4 HT4.out (HX.out.below b HX.out.lt))) ?_
  refine walk_free 8 (.pointer (some ⟨b0, 2, none⟩)) rfl (by kernel_rfl) (by kernel_rfl) (by kernel_rfl) (by kernel_rfl) (by kernel_rfl) (by kernel_rfl) B0 (fun _ _ => ex_field (v := .pointer (some ⟨b0, 0, none⟩)) 35 (.tmp 1) 2 (by kernel_rfl) (by kernel_rfl) (by kernel_rfl)) ?_
  refine walk_free 9 (.bool true) rfl (by kernel_rfl) (by kernel_rfl) (by kernel_rfl) (by kernel_rfl) (by kernel_rfl) (by kernel_rfl) B0 (fun W b => ex_load 4 (.tmp 12) (by kernel_rfl) ⟨b0, 2, none⟩ (by kernel_rfl) (by kernel_rfl) (((HX.out.below b HX.out.lt).cell 2).trans (drv_2 (⟨false, true, true, id, n, m⟩ : Dr)))) ?_
  refine walk_free 10 (.agg #[.bool false, .int .i64 (id : Int), .string T4, .bool true, .int .i64 0, .string ⟨#[]⟩]) rfl (by kernel_rfl) (by kernel_rfl) (by kernel_rfl) (by kernel_rfl) (by kernel_rfl) (by kernel_rfl) B0 (fun _ _ => by kernel_rfl) ?_
  obtain ⟨W1, hW1⟩ : ∃ w', w' = W0.alloc (.cells #[.bool false, .int .i64 0, .string ⟨#[]⟩, .bool false, .int .i64 0, .string ⟨#[]⟩] 23) := ⟨_, rfl⟩
  have N1_1 : Blk W1 W0.heap.size 23 #[.bool false, .int .i64 0, .string ⟨#[]⟩, .bool false, .int .i64 0, .string ⟨#[]⟩] := by rw [hW1]; exact Blk.new _ _ _
  have B1 : Below V.heap.size V W1 := by rw [hW1]; exact B0.alloc B0.size _
  have L1 : V.heap.size ≤ W0.heap.size := B0.size
  refine walk_one 11 (by kernel_rfl) (do_lone (v := .pointer (some ⟨W0.heap.size, 0, none⟩)) (w' := W1) 11 rfl (by kernel_rfl) (by rw [hW1]; exact ex_alloc 23 #[.bool false, .int .i64 0, .string ⟨#[]⟩, .bool false, .int .i64 0, .string ⟨#[]⟩] (by kernel_rfl) (fun _ => by kernel_rfl)) B1 ?_)
  clear hW1
  obtain ⟨X, hX⟩ : ∃ X, X = W0.heap.size := ⟨_, rfl⟩
  rw [← hX] at N1_1
  have LX : V.heap.size ≤ X := by rw [hX]; first | exact L1 | (have := L1; omega)
  refine walk_one 12 (by kernel_rfl) (do_last 12 rfl (by kernel_rfl) (by rw [← hX]; exact ex_store_row 23 (.tmp 3) (.tmp 14) (by kernel_rfl) X #[.bool false, .int .i64 (id : Int), .string T4, .bool true, .int .i64 0, .string ⟨#[]⟩] (by rw [hX]; kernel_rfl) (by kernel_rfl) 23 #[.bool false, .int .i64 0, .string ⟨#[]⟩, .bool false, .int .i64 0, .string ⟨#[]⟩] N1_1 ad_size rfl (by simp [Value.oneCell'])) (by kernel_rfl) ?_)
  refine walk_end_at ⟨#[.agg (drv (⟨false, true, true, id, n, m⟩ : Dr)), .pointer (some ⟨b0, 0, none⟩), .pointer (some ⟨r, 0, none⟩), .pointer (some ⟨W0.heap.size, 0, none⟩), .pointer (some ⟨b0, 0, none⟩), .bool false, .pointer (some ⟨b0, 3, none⟩), .int .u8 (id : Int), .int .i64 (id : Int), .pointer (some ⟨b0, 5, none⟩), .slice (some ⟨b0, 5, none⟩) 4 24, .string T4, .pointer (some ⟨b0, 2, none⟩), .bool true, .agg #[.bool false, .int .i64 (id : Int), .string T4, .bool true, .int .i64 0, .string ⟨#[]⟩], undef, undef, undef, undef, undef, undef, undef, undef, undef, undef, undef, undef, undef, undef, undef, undef, undef, undef, undef, undef], []⟩ (by kernel_rfl) (by kernel_rfl) ?_
  obtain ⟨Y, hY⟩ : ∃ Y, Y = W1.setRow X #[.bool false, .int .i64 (id : Int), .string T4, .bool true, .int .i64 0, .string ⟨#[]⟩] := ⟨_, rfl⟩
  have HY := Lib.hid (show Da w Y (⟨false, true, true, id, n, m⟩ : Dr) b0 r X #[.bool false, .int .i64 (id : Int), .string T4, .bool true, .int .i64 0, .string ⟨#[]⟩] by
    have q1 := HX.out.lt
    have q2 := HZ.out.lt
    have q3 := HWR.out
    have q4 := HBV.out.size
    rw [hY]
    refine ⟨(HX.out.below B1 q1).same (setRow_other _ _ _ _ (by omega)), (HZ.out.below B1 q2).same (setRow_other _ _ _ _ (by omega)), setRow_heap _ _ _ _ _ _ N1_1, below_setRow (HBV.out.trans (B1.mono q4)) (by omega) _, ⟨by omega, by omega⟩, ⟨by omega, by omega⟩⟩)
  rw [← hY, ← hX]
  clear hX LX N1_1 B1
  have hY' := hY
  clear hY'
  clear hY
  have c1 := (HY.out.src.cell 1).trans (drv_1 (⟨false, true, true, id, n, m⟩ : Dr))
  obtain ⟨T16, hT16⟩ : ∃ T, T = txt (m.take 16) := ⟨_, rfl⟩
  have hsl := fun W => m_front W b0 16 (by decide)
  have hcv := m_text Y b0 (⟨false, true, true, id, n, m⟩ : Dr) 16 24 (by have := HM.out; show 16 ≤ m.length; omega) T16 hT16 HY.out.src
  have HT16 := Lib.hid hT16
  clear hT16
  have fz := HY.out.x.frozen 2
  have xc := HY.out.x.cell 2
  simp only [List.getElem?_toArray, List.getElem?_cons_zero, List.getElem?_cons_succ] at xc
  obtain ⟨Y1, hY1⟩ : ∃ U, U = Y.setCell ⟨X, 2, none⟩ (.string T16) := ⟨_, rfl⟩
  have HY1 := Lib.hid (show Da w Y1 (⟨false, true, true, id, n, m⟩ : Dr) b0 r X #[.bool false, .int .i64 (id : Int), .string T16, .bool true, .int .i64 0, .string ⟨#[]⟩] by rw [hY1]; exact HY.out.set 2 (.string T16))
  have HUY1 := Lib.hid hY1
  clear hY1
  go_upto_region 4 with fail
  rw [← HUY1.out]
  clear hsl hcv fz xc c1 HUY1
  have c2 := (HY1.out.src.cell 2).trans (drv_2 (⟨false, true, true, id, n, m⟩ : Dr))
  have c4 := (HY1.out.src.cell 4).trans (drv_4 (⟨false, true, true, id, n, m⟩ : Dr))
  have hcv := conv_u16_int n HN.out
  have fz := HY1.out.x.frozen 4
  have xc := HY1.out.x.cell 4
  simp only [List.getElem?_toArray, List.getElem?_cons_zero, List.getElem?_cons_succ] at xc
  obtain ⟨Y2, hY2⟩ : ∃ U, U = Y1.setCell ⟨X, 4, none⟩ (.int .i64 (n : Int)) := ⟨_, rfl⟩
  have HY2 := Lib.hid (show Da w Y2 (⟨false, true, true, id, n, m⟩ : Dr) b0 r X #[.bool false, .int .i64 (id : Int), .string T16, .bool true, .int .i64 (n : Int), .string ⟨#[]⟩] by rw [hY2]; exact HY1.out.set 4 (.int .i64 (n : Int)))
  have HUY2 := Lib.hid hY2
  clear hY2
  go_upto_region 6 with fail
  rw [← HUY2.out]
  clear hcv fz xc c2 c4 HUY2
  have c0 := (HY2.out.src.cell 0).trans (drv_0 (⟨false, true, true, id, n, m⟩ : Dr))
  obtain ⟨T8, hT8⟩ : ∃ T, T = txt (m.drop 16) := ⟨_, rfl⟩
  have hsl := fun W => m_back W b0
  have hcv := m_tail Y2 b0 (⟨false, true, true, id, n, m⟩ : Dr) HM.out T8 hT8 HY2.out.src
  have HT8 := Lib.hid hT8
  clear hT8
  have fz := HY2.out.x.frozen 5
  have xc := HY2.out.x.cell 5
  simp only [List.getElem?_toArray, List.getElem?_cons_zero, List.getElem?_cons_succ] at xc
  obtain ⟨Y3, hY3⟩ : ∃ U, U = Y2.setCell ⟨X, 5, none⟩ (.string T8) := ⟨_, rfl⟩
  have HY3 := Lib.hid (show Da w Y3 (⟨false, true, true, id, n, m⟩ : Dr) b0 r X #[.bool false, .int .i64 (id : Int), .string T16, .bool true, .int .i64 (n : Int), .string T8] by rw [hY3]; exact HY2.out.set 5 (.string T8))
  have HUY3 := Lib.hid hY3
  clear hY3
  go_upto_region 8 with fail
  rw [← HUY3.out]
  clear hsl hcv fz xc c0 HUY3
  go_wp2_with (first
    | (refine wpList_load_row rfl 23 _ rfl X rfl 23 #[.bool false, .int .i64 (id : Int), .string T16, .bool true, .int .i64 (n : Int), .string T8] (0, 0) _ ?_ Try.underlying23 rfl ad_size ?_; exact HY3.out.x)
    | (refine wpList_store_row rfl 23 _ _ rfl r #[.bool false, .int .i64 (id : Int), .string T16, .bool true, .int .i64 (n : Int), .string T8] rfl rfl 23 (adv Ad.zero) ?_ ad_size rfl (by simp [Value.oneCell']) ?_; exact HY3.out.z))
  exact dr_end (⟨false, true, true, id, n, m⟩ : Dr) w Y3 r (by kernel_rfl) (by kernel_rfl) #[.bool false, .int .i64 (id : Int), .string T16, .bool true, .int .i64 (n : Int), .string T8] (by rw [HT16.out, HT8.out]; rfl) _ HY3.out.z HY3.out.bel HY3.out.le.1
set_option maxHeartbeats 1000000 in
set_option maxRecDepth 100000 in
theorem draft_ftf (id n : Nat) (m : List UInt8) (hd : Dr.Ok ⟨false, true, false, id, n, m⟩) (w : World) :
    Calls Try.prog 14 #[.agg (drv (⟨false, true, false, id, n, m⟩ : Dr))] w fun e w' => e = .returned (.agg (adv (Dr.ad (⟨false, true, false, id, n, m⟩ : Dr)))) ∧ Below w.heap.size w w' := by
  obtain ⟨V, hV⟩ : ∃ V, V = (w.alloc (.cells (drv (⟨false, true, false, id, n, m⟩ : Dr)) 35)).alloc (.cells #[.bool false, .int .i64 0, .string ⟨#[]⟩, .bool false, .int .i64 0, .string ⟨#[]⟩] 23) := ⟨_, rfl⟩
  obtain ⟨b0, hb0⟩ : ∃ b0, b0 = w.heap.size := ⟨_, rfl⟩
  obtain ⟨r, hr⟩ : ∃ r, r = w.heap.size + 1 := ⟨_, rfl⟩
  have hx : Blk V b0 35 (drv (⟨false, true, false, id, n, m⟩ : Dr)) := by rw [hV, hb0]; exact (Blk.new _ _ _).alloc _
  have hz : Blk V r 23 #[.bool false, .int .i64 0, .string ⟨#[]⟩, .bool false, .int .i64 0, .string ⟨#[]⟩] := by
    rw [hV, hr]
    have := Blk.new (w.alloc (.cells (drv (⟨false, true, false, id, n, m⟩ : Dr)) 35)) 23 #[.bool false, .int .i64 0, .string ⟨#[]⟩, .bool false, .int .i64 0, .string ⟨#[]⟩]
    simpa using this
  have HX := Lib.hid hx
  have HZ := Lib.hid hz
  have HBV := Lib.hid (show Below w.heap.size w V by rw [hV]; exact ((Below.refl _ w).alloc (Nat.le_refl _) _).alloc (by simp) _)
  have HWR := Lib.hid (show w.heap.size ≤ r by omega)
  obtain ⟨T4, hT4⟩ : ∃ T, T = txt (m.take 4) := ⟨_, rfl⟩
  have HT4 := Lib.hid hT4
  have HVE := Lib.hid hV
  have HB0 := Lib.hid hb0
  have HR := Lib.hid hr
  have HD := Lib.hid hd
  have HM := Lib.hid (show m.length = 24 from hd.b)
  have HN := Lib.hid (show n ≤ 65535 from hd.n)
  clear hV hb0 hr hx hz hd hT4
  go_enter Try.func14, Try.ntmps14
  go_upto_region 1 with fail
  rw [← HVE.out, ← HR.out, ← HB0.out]
  have B0 : Below V.heap.size V V.drew := (Below.refl _ V).drew
  refine walk_start 12 (fun W => Below V.heap.size V W) (by kernel_rfl) (n := 13) rfl ?_
  obtain ⟨W0, hW0⟩ : ∃ W0, W0 = V.drew := ⟨_, rfl⟩
  rw [← hW0] at B0 ⊢
  clear hW0
  refine walk_free 0 (.pointer (some ⟨b0, 0, none⟩)) rfl (by kernel_rfl) (by kernel_rfl) (by kernel_rfl) (by kernel_rfl) (by kernel_rfl) (by kernel_rfl) B0 (fun _ _ => ex_field (v := .pointer (some ⟨b0, 0, none⟩)) 35 (.tmp 1) 0 (by kernel_rfl) (by kernel_rfl) (by kernel_rfl)) ?_
  refine walk_free 1 (.bool false) rfl (by kernel_rfl) (by kernel_rfl) (by kernel_rfl) (by kernel_rfl) (by kernel_rfl) (by kernel_rfl) B0 (fun W b => ex_load 4 (.tmp 4) (by kernel_rfl) ⟨b0, 0, none⟩ (by kernel_rfl) (by kernel_rfl) (((HX.out.below b HX.out.lt).cell 0).trans (drv_0 (⟨false, true, false, id, n, m⟩ : Dr)))) ?_
  refine walk_free 2 (.pointer (some ⟨b0, 3, none⟩)) rfl (by kernel_rfl) (by kernel_rfl) (by kernel_rfl) (by kernel_rfl) (by kernel_rfl) (by kernel_rfl) B0 (fun _ _ => ex_field (v := .pointer (some ⟨b0, 0, none⟩)) 35 (.tmp 1) 3 (by kernel_rfl) (by kernel_rfl) (by kernel_rfl)) ?_
  refine walk_free 3 (.int .u8 (id : Int)) rfl (by kernel_rfl) (by kernel_rfl) (by kernel_rfl) (by kernel_rfl) (by kernel_rfl) (by kernel_rfl) B0 (fun W b => ex_load 5 (.tmp 6) (by kernel_rfl) ⟨b0, 3, none⟩ (by kernel_rfl) (by kernel_rfl) (((HX.out.below b HX.out.lt).cell 3).trans (drv_3 (⟨false, true, false, id, n, m⟩ : Dr)))) ?_
  refine walk_free 4 (.int .i64 (id : Int)) rfl (by kernel_rfl) (by kernel_rfl) (by kernel_rfl) (by kernel_rfl) (by kernel_rfl) (by kernel_rfl) B0 (fun W _ => ex_convert_to (v := .int .u8 (id : Int)) 5 3 (.tmp 7) (by kernel_rfl) (by kernel_rfl) (conv_u8_int id HD.out.id W)) ?_
  refine walk_free 5 (.pointer (some ⟨b0, 5, none⟩)) rfl (by kernel_rfl) (by kernel_rfl) (by kernel_rfl) (by kernel_rfl) (by kernel_rfl) (by kernel_rfl) B0 (fun _ _ => ex_field (v := .pointer (some ⟨b0, 0, none⟩)) 35 (.tmp 1) 5 (by kernel_rfl) (by kernel_rfl) (by kernel_rfl)) ?_
  refine walk_free 6 (.slice (some ⟨b0, 5, none⟩) 4 24) rfl (by kernel_rfl) (by kernel_rfl) (by kernel_rfl) (by kernel_rfl) (by kernel_rfl) (by kernel_rfl) B0 (fun W _ => ex_slice_front (v := .pointer (some ⟨b0, 5, none⟩)) (hv := .int .i64 4) 33 (.tmp 9) (.const (.int .i64 4)) (by kernel_rfl) (by kernel_rfl) (by kernel_rfl) (m_front W b0 4 (by decide))) ?_
  refine walk_free 7 (.string T4) rfl (by kernel_rfl) (by kernel_rfl) (by kernel_rfl) (by kernel_rfl) (by kernel_rfl) (by kernel_rfl) B0 (fun W b => ex_convert_to (v := .slice (some ⟨b0, 5, none⟩) 4 24) 38 9 (.tmp 10) (by kernel_rfl) (by kernel_rfl) (m_text W b0 (⟨false, true, false, id, n, m⟩ : Dr) 4 24 (by have : m.length = 24 := HD.out.b; show 4 ≤ m.length; omega) T4 HT4.out (HX.out.below b HX.out.lt))) ?_
  refine walk_free 8 (.pointer (some ⟨b0, 2, none⟩)) rfl (by kernel_rfl) (by kernel_rfl) (by kernel_rfl) (by kernel_rfl) (by kernel_rfl) (by kernel_rfl) B0 (fun _ _ => ex_field (v := .pointer (some ⟨b0, 0, none⟩)) 35 (.tmp 1) 2 (by kernel_rfl) (by kernel_rfl) (by kernel_rfl)) ?_
  refine walk_free 9 (.bool false) rfl (by kernel_rfl) (by kernel_rfl) (by kernel_rfl) (by kernel_rfl) (by kernel_rfl) (by kernel_rfl) B0 (fun W b => ex_load 4 (.tmp 12) (by kernel_rfl) ⟨b0, 2, none⟩ (by kernel_rfl) (by kernel_rfl) (((HX.out.below b HX.out.lt).cell 2).trans (drv_2 (⟨false, true, false, id, n, m⟩ : Dr)))) ?_
  refine walk_free 10 (.agg #[.bool false, .int .i64 (id : Int), .string T4, .bool false, .int .i64 0, .string ⟨#[]⟩]) rfl (by kernel_rfl) (by kernel_rfl) (by kernel_rfl) (by kernel_rfl) (by kernel_rfl) (by kernel_rfl) B0 (fun _ _ => by kernel_rfl) ?_
  obtain ⟨W1, hW1⟩ : ∃ w', w' = W0.alloc (.cells #[.bool false, .int .i64 0, .string ⟨#[]⟩, .bool false, .int .i64 0, .string ⟨#[]⟩] 23) := ⟨_, rfl⟩
  have N1_1 : Blk W1 W0.heap.size 23 #[.bool false, .int .i64 0, .string ⟨#[]⟩, .bool false, .int .i64 0, .string ⟨#[]⟩] := by rw [hW1]; exact Blk.new _ _ _
  have B1 : Below V.heap.size V W1 := by rw [hW1]; exact B0.alloc B0.size _
  have L1 : V.heap.size ≤ W0.heap.size := B0.size
  refine walk_one 11 (by kernel_rfl) (do_lone (v := .pointer (some ⟨W0.heap.size, 0, none⟩)) (w' := W1) 11 rfl (by kernel_rfl) (by rw [hW1]; exact ex_alloc 23 #[.bool false, .int .i64 0, .string ⟨#[]⟩, .bool false, .int .i64 0, .string ⟨#[]⟩] (by kernel_rfl) (fun _ => by kernel_rfl)) B1 ?_)
  clear hW1
  obtain ⟨X, hX⟩ : ∃ X, X = W0.heap.size := ⟨_, rfl⟩
  rw [← hX] at N1_1
  have LX : V.heap.size ≤ X := by rw [hX]; first | exact L1 | (have := L1; omega)
  refine walk_one 12 (by kernel_rfl) (do_last 12 rfl (by kernel_rfl) (by rw [← hX]; exact ex_store_row 23 (.tmp 3) (.tmp 14) (by kernel_rfl) X #[.bool false, .int .i64 (id : Int), .string T4, .bool false, .int .i64 0, .string ⟨#[]⟩] (by rw [hX]; kernel_rfl) (by kernel_rfl) 23 #[.bool false, .int .i64 0, .string ⟨#[]⟩, .bool false, .int .i64 0, .string ⟨#[]⟩] N1_1 ad_size rfl (by simp [Value.oneCell'])) (by kernel_rfl) ?_)
  refine walk_end_at ⟨#[.agg (drv (⟨false, true, false, id, n, m⟩ : Dr)), .pointer (some ⟨b0, 0, none⟩), .pointer (some ⟨r, 0, none⟩), .pointer (some ⟨W0.heap.size, 0, none⟩), .pointer (some ⟨b0, 0, none⟩), .bool false, .pointer (some ⟨b0, 3, none⟩), .int .u8 (id : Int), .int .i64 (id : Int), .pointer (some ⟨b0, 5, none⟩), .slice (some ⟨b0, 5, none⟩) 4 24, .string T4, .pointer (some ⟨b0, 2, none⟩), .bool false, .agg #[.bool false, .int .i64 (id : Int), .string T4, .bool false, .int .i64 0, .string ⟨#[]⟩], undef, undef, undef, undef, undef, undef, undef, undef, undef, undef, undef, undef, undef, undef, undef, undef, undef, undef, undef, undef], []⟩ (by kernel_rfl) (by kernel_rfl) ?_
  obtain ⟨Y, hY⟩ : ∃ Y, Y = W1.setRow X #[.bool false, .int .i64 (id : Int), .string T4, .bool false, .int .i64 0, .string ⟨#[]⟩] := ⟨_, rfl⟩
  have HY := Lib.hid (show Da w Y (⟨false, true, false, id, n, m⟩ : Dr) b0 r X #[.bool false, .int .i64 (id : Int), .string T4, .bool false, .int .i64 0, .string ⟨#[]⟩] by
    have q1 := HX.out.lt
    have q2 := HZ.out.lt
    have q3 := HWR.out
    have q4 := HBV.out.size
    rw [hY]
    refine ⟨(HX.out.below B1 q1).same (setRow_other _ _ _ _ (by omega)), (HZ.out.below B1 q2).same (setRow_other _ _ _ _ (by omega)), setRow_heap _ _ _ _ _ _ N1_1, below_setRow (HBV.out.trans (B1.mono q4)) (by omega) _, ⟨by omega, by omega⟩, ⟨by omega, by omega⟩⟩)
  rw [← hY, ← hX]
  clear hX LX N1_1 B1
  have hY' := hY
  clear hY'
  clear hY
  have c1 := (HY.out.src.cell 1).trans (drv_1 (⟨false, true, false, id, n, m⟩ : Dr))
  obtain ⟨T16, hT16⟩ : ∃ T, T = txt (m.take 16) := ⟨_, rfl⟩
  have hsl := fun W => m_front W b0 16 (by decide)
  have hcv := m_text Y b0 (⟨false, true, false, id, n, m⟩ : Dr) 16 24 (by have := HM.out; show 16 ≤ m.length; omega) T16 hT16 HY.out.src
  have HT16 := Lib.hid hT16
  clear hT16
  have fz := HY.out.x.frozen 2
  have xc := HY.out.x.cell 2
  simp only [List.getElem?_toArray, List.getElem?_cons_zero, List.getElem?_cons_succ] at xc
  obtain ⟨Y1, hY1⟩ : ∃ U, U = Y.setCell ⟨X, 2, none⟩ (.string T16) := ⟨_, rfl⟩
  have HY1 := Lib.hid (show Da w Y1 (⟨false, true, false, id, n, m⟩ : Dr) b0 r X #[.bool false, .int .i64 (id : Int), .string T16, .bool false, .int .i64 0, .string ⟨#[]⟩] by rw [hY1]; exact HY.out.set 2 (.string T16))
  have HUY1 := Lib.hid hY1
  clear hY1
  go_upto_region 4 with fail
  rw [← HUY1.out]
  clear hsl hcv fz xc c1 HUY1
  have c2 := (HY1.out.src.cell 2).trans (drv_2 (⟨false, true, false, id, n, m⟩ : Dr))
  go_upto_region 6 with fail
  clear c2
  have c0 := (HY1.out.src.cell 0).trans (drv_0 (⟨false, true, false, id, n, m⟩ : Dr))
  obtain ⟨T8, hT8⟩ : ∃ T, T = txt (m.drop 16) := ⟨_, rfl⟩
  have hsl := fun W => m_back W b0
  have hcv := m_tail Y1 b0 (⟨false, true, false, id, n, m⟩ : Dr) HM.out T8 hT8 HY1.out.src
  have HT8 := Lib.hid hT8
  clear hT8
  have fz := HY1.out.x.frozen 5
  have xc := HY1.out.x.cell 5
  simp only [List.getElem?_toArray, List.getElem?_cons_zero, List.getElem?_cons_succ] at xc
  obtain ⟨Y2, hY2⟩ : ∃ U, U = Y1.setCell ⟨X, 5, none⟩ (.string T8) := ⟨_, rfl⟩
  have HY2 := Lib.hid (show Da w Y2 (⟨false, true, false, id, n, m⟩ : Dr) b0 r X #[.bool false, .int .i64 (id : Int), .string T16, .bool false, .int .i64 0, .string T8] by rw [hY2]; exact HY1.out.set 5 (.string T8))
  have HUY2 := Lib.hid hY2
  clear hY2
  go_upto_region 8 with fail
  rw [← HUY2.out]
  clear hsl hcv fz xc c0 HUY2
  go_wp2_with (first
    | (refine wpList_load_row rfl 23 _ rfl X rfl 23 #[.bool false, .int .i64 (id : Int), .string T16, .bool false, .int .i64 0, .string T8] (0, 0) _ ?_ Try.underlying23 rfl ad_size ?_; exact HY2.out.x)
    | (refine wpList_store_row rfl 23 _ _ rfl r #[.bool false, .int .i64 (id : Int), .string T16, .bool false, .int .i64 0, .string T8] rfl rfl 23 (adv Ad.zero) ?_ ad_size rfl (by simp [Value.oneCell']) ?_; exact HY2.out.z))
  exact dr_end (⟨false, true, false, id, n, m⟩ : Dr) w Y2 r (by kernel_rfl) (by kernel_rfl) #[.bool false, .int .i64 (id : Int), .string T16, .bool false, .int .i64 0, .string T8] (by rw [HT16.out, HT8.out]; rfl) _ HY2.out.z HY2.out.bel HY2.out.le.1
set_option maxHeartbeats 1000000 in
set_option maxRecDepth 100000 in
theorem draft_fft (id n : Nat) (m : List UInt8) (hd : Dr.Ok ⟨false, false, true, id, n, m⟩) (w : World) :
    Calls Try.prog 14 #[.agg (drv (⟨false, false, true, id, n, m⟩ : Dr))] w fun e w' => e = .returned (.agg (adv (Dr.ad (⟨false, false, true, id, n, m⟩ : Dr)))) ∧ Below w.heap.size w w' := by
  obtain ⟨V, hV⟩ : ∃ V, V = (w.alloc (.cells (drv (⟨false, false, true, id, n, m⟩ : Dr)) 35)).alloc (.cells #[.bool false, .int .i64 0, .string ⟨#[]⟩, .bool false, .int .i64 0, .string ⟨#[]⟩] 23) := ⟨_, rfl⟩
  obtain ⟨b0, hb0⟩ : ∃ b0, b0 = w.heap.size := ⟨_, rfl⟩
  obtain ⟨r, hr⟩ : ∃ r, r = w.heap.size + 1 := ⟨_, rfl⟩
  have hx : Blk V b0 35 (drv (⟨false, false, true, id, n, m⟩ : Dr)) := by rw [hV, hb0]; exact (Blk.new _ _ _).alloc _
  have hz : Blk V r 23 #[.bool false, .int .i64 0, .string ⟨#[]⟩, .bool false, .int .i64 0, .string ⟨#[]⟩] := by
    rw [hV, hr]
    have := Blk.new (w.alloc (.cells (drv (⟨false, false, true, id, n, m⟩ : Dr)) 35)) 23 #[.bool false, .int .i64 0, .string ⟨#[]⟩, .bool false, .int .i64 0, .string ⟨#[]⟩]
    simpa using this
  have HX := Lib.hid hx
  have HZ := Lib.hid hz
  have HBV := Lib.hid (show Below w.heap.size w V by rw [hV]; exact ((Below.refl _ w).alloc (Nat.le_refl _) _).alloc (by simp) _)
  have HWR := Lib.hid (show w.heap.size ≤ r by omega)
  obtain ⟨T4, hT4⟩ : ∃ T, T = txt (m.take 4) := ⟨_, rfl⟩
  have HT4 := Lib.hid hT4
  have HVE := Lib.hid hV
  have HB0 := Lib.hid hb0
  have HR := Lib.hid hr
  have HD := Lib.hid hd
  have HM := Lib.hid (show m.length = 24 from hd.b)
  have HN := Lib.hid (show n ≤ 65535 from hd.n)
  clear hV hb0 hr hx hz hd hT4
  go_enter Try.func14, Try.ntmps14
  go_upto_region 1 with fail
  rw [← HVE.out, ← HR.out, ← HB0.out]
  have B0 : Below V.heap.size V V.drew := (Below.refl _ V).drew
  refine walk_start 12 (fun W => Below V.heap.size V W) (by kernel_rfl) (n := 13) rfl ?_
  obtain ⟨W0, hW0⟩ : ∃ W0, W0 = V.drew := ⟨_, rfl⟩
  rw [← hW0] at B0 ⊢
  clear hW0
  refine walk_free 0 (.pointer (some ⟨b0, 0, none⟩)) rfl (by kernel_rfl) (by kernel_rfl) (by kernel_rfl) (by kernel_rfl) (by kernel_rfl) (by kernel_rfl) B0 (fun _ _ => ex_field (v := .pointer (some ⟨b0, 0, none⟩)) 35 (.tmp 1) 0 (by kernel_rfl) (by kernel_rfl) (by kernel_rfl)) ?_
  refine walk_free 1 (.bool false) rfl (by kernel_rfl) (by kernel_rfl) (by kernel_rfl) (by kernel_rfl) (by kernel_rfl) (by kernel_rfl) B0 (fun W b => ex_load 4 (.tmp 4) (by kernel_rfl) ⟨b0, 0, none⟩ (by kernel_rfl) (by kernel_rfl) (((HX.out.below b HX.out.lt).cell 0).trans (drv_0 (⟨false, false, true, id, n, m⟩ : Dr)))) ?_
  refine walk_free 2 (.pointer (some ⟨b0, 3, none⟩)) rfl (by kernel_rfl) (by kernel_rfl) (by kernel_rfl) (by kernel_rfl) (by kernel_rfl) (by kernel_rfl) B0 (fun _ _ => ex_field (v := .pointer (some ⟨b0, 0, none⟩)) 35 (.tmp 1) 3 (by kernel_rfl) (by kernel_rfl) (by kernel_rfl)) ?_
  refine walk_free 3 (.int .u8 (id : Int)) rfl (by kernel_rfl) (by kernel_rfl) (by kernel_rfl) (by kernel_rfl) (by kernel_rfl) (by kernel_rfl) B0 (fun W b => ex_load 5 (.tmp 6) (by kernel_rfl) ⟨b0, 3, none⟩ (by kernel_rfl) (by kernel_rfl) (((HX.out.below b HX.out.lt).cell 3).trans (drv_3 (⟨false, false, true, id, n, m⟩ : Dr)))) ?_
  refine walk_free 4 (.int .i64 (id : Int)) rfl (by kernel_rfl) (by kernel_rfl) (by kernel_rfl) (by kernel_rfl) (by kernel_rfl) (by kernel_rfl) B0 (fun W _ => ex_convert_to (v := .int .u8 (id : Int)) 5 3 (.tmp 7) (by kernel_rfl) (by kernel_rfl) (conv_u8_int id HD.out.id W)) ?_
  refine walk_free 5 (.pointer (some ⟨b0, 5, none⟩)) rfl (by kernel_rfl) (by kernel_rfl) (by kernel_rfl) (by kernel_rfl) (by kernel_rfl) (by kernel_rfl) B0 (fun _ _ => ex_field (v := .pointer (some ⟨b0, 0, none⟩)) 35 (.tmp 1) 5 (by kernel_rfl) (by kernel_rfl) (by kernel_rfl)) ?_
  refine walk_free 6 (.slice (some ⟨b0, 5, none⟩) 4 24) rfl (by kernel_rfl) (by kernel_rfl) (by kernel_rfl) (by kernel_rfl) (by kernel_rfl) (by kernel_rfl) B0 (fun W _ => ex_slice_front (v := .pointer (some ⟨b0, 5, none⟩)) (hv := .int .i64 4) 33 (.tmp 9) (.const (.int .i64 4)) (by kernel_rfl) (by kernel_rfl) (by kernel_rfl) (m_front W b0 4 (by decide))) ?_
  refine walk_free 7 (.string T4) rfl (by kernel_rfl) (by kernel_rfl) (by kernel_rfl) (by kernel_rfl) (by kernel_rfl) (by kernel_rfl) B0 (fun W b => ex_convert_to (v := .slice (some ⟨b0, 5, none⟩) 4 24) 38 9 (.tmp 10) (by kernel_rfl) (by kernel_rfl) (m_text W b0 (⟨false, false, true, id, n, m⟩ : Dr) 4 24 (by have : m.length = 24 := HD.out.b; show 4 ≤ m.length; omega) T4 HT4.out (HX.out.below b HX.out.lt))) ?_
  refine walk_free 8 (.pointer (some ⟨b0, 2, none⟩)) rfl (by kernel_rfl) (by kernel_rfl) (by kernel_rfl) (by kernel_rfl) (by kernel_rfl) (by kernel_rfl) B0 (fun _ _ => ex_field (v := .pointer (some ⟨b0, 0, none⟩)) 35 (.tmp 1) 2 (by kernel_rfl) (by kernel_rfl) (by kernel_rfl)) ?_
  refine walk_free 9 (.bool true) rfl (by kernel_rfl) (by kernel_rfl) (by kernel_rfl) (by kernel_rfl) (by kernel_rfl) (by kernel_rfl) B0 (fun W b => ex_load 4 (.tmp 12) (by kernel_rfl) ⟨b0, 2, none⟩ (by kernel_rfl) (by kernel_rfl) (((HX.out.below b HX.out.lt).cell 2).trans (drv_2 (⟨false, false, true, id, n, m⟩ : Dr)))) ?_
  refine walk_free 10 (.agg #[.bool false, .int .i64 (id : Int), .string T4, .bool true, .int .i64 0, .string ⟨#[]⟩]) rfl (by kernel_rfl) (by kernel_rfl) (by kernel_rfl) (by kernel_rfl) (by kernel_rfl) (by kernel_rfl) B0 (fun _ _ => by kernel_rfl) ?_
  obtain ⟨W1, hW1⟩ : ∃ w', w' = W0.alloc (.cells #[.bool false, .int .i64 0, .string ⟨#[]⟩, .bool false, .int .i64 0, .string ⟨#[]⟩] 23) := ⟨_, rfl⟩
  have N1_1 : Blk W1 W0.heap.size 23 #[.bool false, .int .i64 0, .string ⟨#[]⟩, .bool false, .int .i64 0, .string ⟨#[]⟩] := by rw [hW1]; exact Blk.new _ _ _
  have B1 : Below V.heap.size V W1 := by rw [hW1]; exact B0.alloc B0.size _
  have L1 : V.heap.size ≤ W0.heap.size := B0.size
  refine walk_one 11 (by kernel_rfl) (do_lone (v := .pointer (some ⟨W0.heap.size, 0, none⟩)) (w' := W1) 11 rfl (by kernel_rfl) (by rw [hW1]; exact ex_alloc 23 #[.bool false, .int .i64 0, .string ⟨#[]⟩, .bool false, .int .i64 0, .string ⟨#[]⟩] (by kernel_rfl) (fun _ => by kernel_rfl)) B1 ?_)
  clear hW1
  obtain ⟨X, hX⟩ : ∃ X, X = W0.heap.size := ⟨_, rfl⟩
  rw [← hX] at N1_1
  have LX : V.heap.size ≤ X := by rw [hX]; first | exact L1 | (have := L1; omega)
  refine walk_one 12 (by kernel_rfl) (do_last 12 rfl (by kernel_rfl) (by rw [← hX]; exact ex_store_row 23 (.tmp 3) (.tmp 14) (by kernel_rfl) X #[.bool false, .int .i64 (id : Int), .string T4, .bool true, .int .i64 0, .string ⟨#[]⟩] (by rw [hX]; kernel_rfl) (by kernel_rfl) 23 #[.bool false, .int .i64 0, .string ⟨#[]⟩, .bool false, .int .i64 0, .string ⟨#[]⟩] N1_1 ad_size rfl (by simp [Value.oneCell'])) (by kernel_rfl) ?_)
  refine walk_end_at ⟨#[.agg (drv (⟨false, false, true, id, n, m⟩ : Dr)), .pointer (some ⟨b0, 0, none⟩), .pointer (some ⟨r, 0, none⟩), .pointer (some ⟨W0.heap.size, 0, none⟩), .pointer (some ⟨b0, 0, none⟩), .bool false, .pointer (some ⟨b0, 3, none⟩), .int .u8 (id : Int), .int .i64 (id : Int), .pointer (some ⟨b0, 5, none⟩), .slice (some ⟨b0, 5, none⟩) 4 24, .string T4, .pointer (some ⟨b0, 2, none⟩), .bool true, .agg #[.bool false, .int .i64 (id : Int), .string T4, .bool true, .int .i64 0, .string ⟨#[]⟩], undef, undef, undef, undef, undef, undef, undef, undef, undef, undef, undef, undef, undef, undef, undef, undef, undef, undef, undef, undef], []⟩ (by kernel_rfl) (by kernel_rfl) ?_
  obtain ⟨Y, hY⟩ : ∃ Y, Y = W1.setRow X #[.bool false, .int .i64 (id : Int), .string T4, .bool true, .int .i64 0, .string ⟨#[]⟩] := ⟨_, rfl⟩
  have HY := Lib.hid (show Da w Y (⟨false, false, true, id, n, m⟩ : Dr) b0 r X #[.bool false, .int .i64 (id : Int), .string T4, .bool true, .int .i64 0, .string ⟨#[]⟩] by
    have q1 := HX.out.lt
    have q2 := HZ.out.lt
    have q3 := HWR.out
    have q4 := HBV.out.size
    rw [hY]
    refine ⟨(HX.out.below B1 q1).same (setRow_other _ _ _ _ (by omega)), (HZ.out.below B1 q2).same (setRow_other _ _ _ _ (by omega)), setRow_heap _ _ _ _ _ _ N1_1, below_setRow (HBV.out.trans (B1.mono q4)) (by omega) _, ⟨by omega, by omega⟩, ⟨by omega, by omega⟩⟩)
  rw [← hY, ← hX]
  clear hX LX N1_1 B1
  have hY' := hY
  clear hY'
  clear hY
  have c1 := (HY.out.src.cell 1).trans (drv_1 (⟨false, false, true, id, n, m⟩ : Dr))
  go_upto_region 4 with fail
  clear c1
  have c2 := (HY.out.src.cell 2).trans (drv_2 (⟨false, false, true, id, n, m⟩ : Dr))
  have c4 := (HY.out.src.cell 4).trans (drv_4 (⟨false, false, true, id, n, m⟩ : Dr))
  have hcv := conv_u16_int n HN.out
  have fz := HY.out.x.frozen 4
  have xc := HY.out.x.cell 4
  simp only [List.getElem?_toArray, List.getElem?_cons_zero, List.getElem?_cons_succ] at xc
  obtain ⟨Y1, hY1⟩ : ∃ U, U = Y.setCell ⟨X, 4, none⟩ (.int .i64 (n : Int)) := ⟨_, rfl⟩
  have HY1 := Lib.hid (show Da w Y1 (⟨false, false, true, id, n, m⟩ : Dr) b0 r X #[.bool false, .int .i64 (id : Int), .string T4, .bool true, .int .i64 (n : Int), .string ⟨#[]⟩] by rw [hY1]; exact HY.out.set 4 (.int .i64 (n : Int)))
  have HUY1 := Lib.hid hY1
  clear hY1
  go_upto_region 6 with fail
  rw [← HUY1.out]
  clear hcv fz xc c2 c4 HUY1
  have c0 := (HY1.out.src.cell 0).trans (drv_0 (⟨false, false, true, id, n, m⟩ : Dr))
  obtain ⟨T8, hT8⟩ : ∃ T, T = txt (m.drop 16) := ⟨_, rfl⟩
  have hsl := fun W => m_back W b0
  have hcv := m_tail Y1 b0 (⟨false, false, true, id, n, m⟩ : Dr) HM.out T8 hT8 HY1.out.src
  have HT8 := Lib.hid hT8
  clear hT8
  have fz := HY1.out.x.frozen 5
  have xc := HY1.out.x.cell 5
  simp only [List.getElem?_toArray, List.getElem?_cons_zero, List.getElem?_cons_succ] at xc
  obtain ⟨Y2, hY2⟩ : ∃ U, U = Y1.setCell ⟨X, 5, none⟩ (.string T8) := ⟨_, rfl⟩
  have HY2 := Lib.hid (show Da w Y2 (⟨false, false, true, id, n, m⟩ : Dr) b0 r X #[.bool false, .int .i64 (id : Int), .string T4, .bool true, .int .i64 (n : Int), .string T8] by rw [hY2]; exact HY1.out.set 5 (.string T8))
  have HUY2 := Lib.hid hY2
  clear hY2
  go_upto_region 8 with fail
  rw [← HUY2.out]
  clear hsl hcv fz xc c0 HUY2
  go_wp2_with (first
    | (refine wpList_load_row rfl 23 _ rfl X rfl 23 #[.bool false, .int .i64 (id : Int), .string T4, .bool true, .int .i64 (n : Int), .string T8] (0, 0) _ ?_ Try.underlying23 rfl ad_size ?_; exact HY2.out.x)
    | (refine wpList_store_row rfl 23 _ _ rfl r #[.bool false, .int .i64 (id : Int), .string T4, .bool true, .int .i64 (n : Int), .string T8] rfl rfl 23 (adv Ad.zero) ?_ ad_size rfl (by simp [Value.oneCell']) ?_; exact HY2.out.z))
  exact dr_end (⟨false, false, true, id, n, m⟩ : Dr) w Y2 r (by kernel_rfl) (by kernel_rfl) #[.bool false, .int .i64 (id : Int), .string T4, .bool true, .int .i64 (n : Int), .string T8] (by rw [HT4.out, HT8.out]; rfl) _ HY2.out.z HY2.out.bel HY2.out.le.1
set_option maxHeartbeats 1000000 in
set_option maxRecDepth 100000 in
theorem draft_fff (id n : Nat) (m : List UInt8) (hd : Dr.Ok ⟨false, false, false, id, n, m⟩) (w : World) :
    Calls Try.prog 14 #[.agg (drv (⟨false, false, false, id, n, m⟩ : Dr))] w fun e w' => e = .returned (.agg (adv (Dr.ad (⟨false, false, false, id, n, m⟩ : Dr)))) ∧ Below w.heap.size w w' := by
  obtain ⟨V, hV⟩ : ∃ V, V = (w.alloc (.cells (drv (⟨false, false, false, id, n, m⟩ : Dr)) 35)).alloc (.cells #[.bool false, .int .i64 0, .string ⟨#[]⟩, .bool false, .int .i64 0, .string ⟨#[]⟩] 23) := ⟨_, rfl⟩
  obtain ⟨b0, hb0⟩ : ∃ b0, b0 = w.heap.size := ⟨_, rfl⟩
  obtain ⟨r, hr⟩ : ∃ r, r = w.heap.size + 1 := ⟨_, rfl⟩
  have hx : Blk V b0 35 (drv (⟨false, false, false, id, n, m⟩ : Dr)) := by rw [hV, hb0]; exact (Blk.new _ _ _).alloc _
  have hz : Blk V r 23 #[.bool false, .int .i64 0, .string ⟨#[]⟩, .bool false, .int .i64 0, .string ⟨#[]⟩] := by
    rw [hV, hr]
    have := Blk.new (w.alloc (.cells (drv (⟨false, false, false, id, n, m⟩ : Dr)) 35)) 23 #[.bool false, .int .i64 0, .string ⟨#[]⟩, .bool false, .int .i64 0, .string ⟨#[]⟩]
    simpa using this
  have HX := Lib.hid hx
  have HZ := Lib.hid hz
  have HBV := Lib.hid (show Below w.heap.size w V by rw [hV]; exact ((Below.refl _ w).alloc (Nat.le_refl _) _).alloc (by simp) _)
  have HWR := Lib.hid (show w.heap.size ≤ r by omega)
  obtain ⟨T4, hT4⟩ : ∃ T, T = txt (m.take 4) := ⟨_, rfl⟩
  have HT4 := Lib.hid hT4
  have HVE := Lib.hid hV
  have HB0 := Lib.hid hb0
  have HR := Lib.hid hr
  have HD := Lib.hid hd
  have HM := Lib.hid (show m.length = 24 from hd.b)
  have HN := Lib.hid (show n ≤ 65535 from hd.n)
  clear hV hb0 hr hx hz hd hT4
  go_enter Try.func14, Try.ntmps14
  go_upto_region 1 with fail
  rw [← HVE.out, ← HR.out, ← HB0.out]
  have B0 : Below V.heap.size V V.drew := (Below.refl _ V).drew
  refine walk_start 12 (fun W => Below V.heap.size V W) (by kernel_rfl) (n := 13) rfl ?_
  obtain ⟨W0, hW0⟩ : ∃ W0, W0 = V.drew := ⟨_, rfl⟩
  rw [← hW0] at B0 ⊢
  clear hW0
  refine walk_free 0 (.pointer (some ⟨b0, 0, none⟩)) rfl (by kernel_rfl) (by kernel_rfl) (by kernel_rfl) (by kernel_rfl) (by kernel_rfl) (by kernel_rfl) B0 (fun _ _ => ex_field (v := .pointer (some ⟨b0, 0, none⟩)) 35 (.tmp 1) 0 (by kernel_rfl) (by kernel_rfl) (by kernel_rfl)) ?_
  refine walk_free 1 (.bool false) rfl (by kernel_rfl) (by kernel_rfl) (by kernel_rfl) (by kernel_rfl) (by kernel_rfl) (by kernel_rfl) B0 (fun W b => ex_load 4 (.tmp 4) (by kernel_rfl) ⟨b0, 0, none⟩ (by kernel_rfl) (by kernel_rfl) (((HX.out.below b HX.out.lt).cell 0).trans (drv_0 (⟨false, false, false, id, n, m⟩ : Dr)))) ?_
  refine walk_free 2 (.pointer (some ⟨b0, 3, none⟩)) rfl (by kernel_rfl) (by kernel_rfl) (by kernel_rfl) (by kernel_rfl) (by kernel_rfl) (by kernel_rfl) B0 (fun _ _ => ex_field (v := .pointer (some ⟨b0, 0, none⟩)) 35 (.tmp 1) 3 (by kernel_rfl) (by kernel_rfl) (by kernel_rfl)) ?_
  refine walk_free 3 (.int .u8 (id : Int)) rfl (by kernel_rfl) (by kernel_rfl) (by kernel_rfl) (by kernel_rfl) (by kernel_rfl) (by kernel_rfl) B0 (fun W b => ex_load 5 (.tmp 6) (by kernel_rfl) ⟨b0, 3, none⟩ (by kernel_rfl) (by kernel_rfl) (((HX.out.below b HX.out.lt).cell 3).trans (drv_3 (⟨false, false, false, id, n, m⟩ : Dr)))) ?_
  refine walk_free 4 (.int .i64 (id : Int)) rfl (by kernel_rfl) (by kernel_rfl) (by kernel_rfl) (by kernel_rfl) (by kernel_rfl) (by kernel_rfl) B0 (fun W _ => ex_convert_to (v := .int .u8 (id : Int)) 5 3 (.tmp 7) (by kernel_rfl) (by kernel_rfl) (conv_u8_int id HD.out.id W)) ?_
  refine walk_free 5 (.pointer (some ⟨b0, 5, none⟩)) rfl (by kernel_rfl) (by kernel_rfl) (by kernel_rfl) (by kernel_rfl) (by kernel_rfl) (by kernel_rfl) B0 (fun _ _ => ex_field (v := .pointer (some ⟨b0, 0, none⟩)) 35 (.tmp 1) 5 (by kernel_rfl) (by kernel_rfl) (by kernel_rfl)) ?_
  refine walk_free 6 (.slice (some ⟨b0, 5, none⟩) 4 24) rfl (by kernel_rfl) (by kernel_rfl) (by kernel_rfl) (by kernel_rfl) (by kernel_rfl) (by kernel_rfl) B0 (fun W _ => ex_slice_front (v := .pointer (some ⟨b0, 5, none⟩)) (hv := .int .i64 4) 33 (.tmp 9) (.const (.int .i64 4)) (by kernel_rfl) (by kernel_rfl) (by kernel_rfl) (m_front W b0 4 (by decide))) ?_
  refine walk_free 7 (.string T4) rfl (by kernel_rfl) (by kernel_rfl) (by kernel_rfl) (by kernel_rfl) (by kernel_rfl) (by kernel_rfl) B0 (fun W b => ex_convert_to (v := .slice (some ⟨b0, 5, none⟩) 4 24) 38 9 (.tmp 10) (by kernel_rfl) (by kernel_rfl) (m_text W b0 (⟨false, false, false, id, n, m⟩ : Dr) 4 24 (by have : m.length = 24 := HD.out.b; show 4 ≤ m.length; omega) T4 HT4.out (HX.out.below b HX.out.lt))) ?_
  refine walk_free 8 (.pointer (some ⟨b0, 2, none⟩)) rfl (by kernel_rfl) (by kernel_rfl) (by kernel_rfl) (by kernel_rfl) (by kernel_rfl) (by kernel_rfl) B0 (fun _ _ => ex_field (v := .pointer (some ⟨b0, 0, none⟩)) 35 (.tmp 1) 2 (by kernel_rfl) (by kernel_rfl) (by kernel_rfl)) ?_
  refine walk_free 9 (.bool false) rfl (by kernel_rfl) (by kernel_rfl) (by kernel_rfl) (by kernel_rfl) (by kernel_rfl) (by kernel_rfl) B0 (fun W b => ex_load 4 (.tmp 12) (by kernel_rfl) ⟨b0, 2, none⟩ (by kernel_rfl) (by kernel_rfl) (((HX.out.below b HX.out.lt).cell 2).trans (drv_2 (⟨false, false, false, id, n, m⟩ : Dr)))) ?_
  refine walk_free 10 (.agg #[.bool false, .int .i64 (id : Int), .string T4, .bool false, .int .i64 0, .string ⟨#[]⟩]) rfl (by kernel_rfl) (by kernel_rfl) (by kernel_rfl) (by kernel_rfl) (by kernel_rfl) (by kernel_rfl) B0 (fun _ _ => by kernel_rfl) ?_
  obtain ⟨W1, hW1⟩ : ∃ w', w' = W0.alloc (.cells #[.bool false, .int .i64 0, .string ⟨#[]⟩, .bool false, .int .i64 0, .string ⟨#[]⟩] 23) := ⟨_, rfl⟩
  have N1_1 : Blk W1 W0.heap.size 23 #[.bool false, .int .i64 0, .string ⟨#[]⟩, .bool false, .int .i64 0, .string ⟨#[]⟩] := by rw [hW1]; exact Blk.new _ _ _
  have B1 : Below V.heap.size V W1 := by rw [hW1]; exact B0.alloc B0.size _
  have L1 : V.heap.size ≤ W0.heap.size := B0.size
  refine walk_one 11 (by kernel_rfl) (do_lone (v := .pointer (some ⟨W0.heap.size, 0, none⟩)) (w' := W1) 11 rfl (by kernel_rfl) (by rw [hW1]; exact ex_alloc 23 #[.bool false, .int .i64 0, .string ⟨#[]⟩, .bool false, .int .i64 0, .string ⟨#[]⟩] (by kernel_rfl) (fun _ => by kernel_rfl)) B1 ?_)
  clear hW1
  obtain ⟨X, hX⟩ : ∃ X, X = W0.heap.size := ⟨_, rfl⟩
  rw [← hX] at N1_1
  have LX : V.heap.size ≤ X := by rw [hX]; first | exact L1 | (have := L1; omega)
  refine walk_one 12 (by kernel_rfl) (do_last 12 rfl (by kernel_rfl) (by rw [← hX]; exact ex_store_row 23 (.tmp 3) (.tmp 14) (by kernel_rfl) X #[.bool false, .int .i64 (id : Int), .string T4, .bool false, .int .i64 0, .string ⟨#[]⟩] (by rw [hX]; kernel_rfl) (by kernel_rfl) 23 #[.bool false, .int .i64 0, .string ⟨#[]⟩, .bool false, .int .i64 0, .string ⟨#[]⟩] N1_1 ad_size rfl (by simp [Value.oneCell'])) (by kernel_rfl) ?_)
  refine walk_end_at ⟨#[.agg (drv (⟨false, false, false, id, n, m⟩ : Dr)), .pointer (some ⟨b0, 0, none⟩), .pointer (some ⟨r, 0, none⟩), .pointer (some ⟨W0.heap.size, 0, none⟩), .pointer (some ⟨b0, 0, none⟩), .bool false, .pointer (some ⟨b0, 3, none⟩), .int .u8 (id : Int), .int .i64 (id : Int), .pointer (some ⟨b0, 5, none⟩), .slice (some ⟨b0, 5, none⟩) 4 24, .string T4, .pointer (some ⟨b0, 2, none⟩), .bool false, .agg #[.bool false, .int .i64 (id : Int), .string T4, .bool false, .int .i64 0, .string ⟨#[]⟩], undef, undef, undef, undef, undef, undef, undef, undef, undef, undef, undef, undef, undef, undef, undef, undef, undef, undef, undef, undef], []⟩ (by kernel_rfl) (by kernel_rfl) ?_
  obtain ⟨Y, hY⟩ : ∃ Y, Y = W1.setRow X #[.bool false, .int .i64 (id : Int), .string T4, .bool false, .int .i64 0, .string ⟨#[]⟩] := ⟨_, rfl⟩
  have HY := Lib.hid (show Da w Y (⟨false, false, false, id, n, m⟩ : Dr) b0 r X #[.bool false, .int .i64 (id : Int), .string T4, .bool false, .int .i64 0, .string ⟨#[]⟩] by
    have q1 := HX.out.lt
    have q2 := HZ.out.lt
    have q3 := HWR.out
    have q4 := HBV.out.size
    rw [hY]
    refine ⟨(HX.out.below B1 q1).same (setRow_other _ _ _ _ (by omega)), (HZ.out.below B1 q2).same (setRow_other _ _ _ _ (by omega)), setRow_heap _ _ _ _ _ _ N1_1, below_setRow (HBV.out.trans (B1.mono q4)) (by omega) _, ⟨by omega, by omega⟩, ⟨by omega, by omega⟩⟩)
  rw [← hY, ← hX]
  clear hX LX N1_1 B1
  have hY' := hY
  clear hY'
  clear hY
  have c1 := (HY.out.src.cell 1).trans (drv_1 (⟨false, false, false, id, n, m⟩ : Dr))
  go_upto_region 4 with fail
  clear c1
  have c2 := (HY.out.src.cell 2).trans (drv_2 (⟨false, false, false, id, n, m⟩ : Dr))
  go_upto_region 6 with fail
  clear c2
  have c0 := (HY.out.src.cell 0).trans (drv_0 (⟨false, false, false, id, n, m⟩ : Dr))
  obtain ⟨T8, hT8⟩ : ∃ T, T = txt (m.drop 16) := ⟨_, rfl⟩
  have hsl := fun W => m_back W b0
  have hcv := m_tail Y b0 (⟨false, false, false, id, n, m⟩ : Dr) HM.out T8 hT8 HY.out.src
  have HT8 := Lib.hid hT8
  clear hT8
  have fz := HY.out.x.frozen 5
  have xc := HY.out.x.cell 5
  simp only [List.getElem?_toArray, List.getElem?_cons_zero, List.getElem?_cons_succ] at xc
  obtain ⟨Y1, hY1⟩ : ∃ U, U = Y.setCell ⟨X, 5, none⟩ (.string T8) := ⟨_, rfl⟩
  have HY1 := Lib.hid (show Da w Y1 (⟨false, false, false, id, n, m⟩ : Dr) b0 r X #[.bool false, .int .i64 (id : Int), .string T4, .bool false, .int .i64 0, .string T8] by rw [hY1]; exact HY.out.set 5 (.string T8))
  have HUY1 := Lib.hid hY1
  clear hY1
  go_upto_region 8 with fail
  rw [← HUY1.out]
  clear hsl hcv fz xc c0 HUY1
  go_wp2_with (first
    | (refine wpList_load_row rfl 23 _ rfl X rfl 23 #[.bool false, .int .i64 (id : Int), .string T4, .bool false, .int .i64 0, .string T8] (0, 0) _ ?_ Try.underlying23 rfl ad_size ?_; exact HY1.out.x)
    | (refine wpList_store_row rfl 23 _ _ rfl r #[.bool false, .int .i64 (id : Int), .string T4, .bool false, .int .i64 0, .string T8] rfl rfl 23 (adv Ad.zero) ?_ ad_size rfl (by simp [Value.oneCell']) ?_; exact HY1.out.z))
  exact dr_end (⟨false, false, false, id, n, m⟩ : Dr) w Y1 r (by kernel_rfl) (by kernel_rfl) #[.bool false, .int .i64 (id : Int), .string T4, .bool false, .int .i64 0, .string T8] (by rw [HT4.out, HT8.out]; rfl) _ HY1.out.z HY1.out.bel HY1.out.le.1
theorem Draft_any (d : Dr) (hd : d.Ok) (w : World) :
    Calls Try.prog 14 #[.agg (drv d)] w fun e w' => e = .returned (.agg (adv d.ad)) ∧ Below w.heap.size w w' := by
  obtain ⟨echo, wide, port, id, n, m⟩ := d
  cases echo <;> cases wide <;> cases port
  · exact draft_fff id n m hd w
  · exact draft_fft id n m hd w
  · exact draft_ftf id n m hd w
  · exact draft_ftt id n m hd w
  · exact draft_tff id n m hd w
  · exact draft_tft id n m hd w
  · exact draft_ttf id n m hd w
  · exact draft_ttt id n m hd w
end Go.Proofs.Ytcofdiamlmlhfaa
