/-
  What the option of a draft is (plaitlaw10.Draft's Join), by its walk.
-/
import Derived.Test.YthnokkcpmikajaaDoorJoinOpen
import Derived.Laws.IdiomArrays
import Derived.Laws.Slices
import Derived.Laws.IdiomStrings
import Derived.Laws.CopyOwn
namespace Go.Proofs.YthnokkcpmikajaaDoor
open Go.ChangeShapes Go.WideShapes Go.ChangeAt Go.RowKit
set_option linter.unusedVariables false

theorem drv_0 (d : Dr) : (drv d)[0]? = some (.int .u8 (d.what : Int)) := rfl
theorem drv_1 (d : Dr) : (drv d)[1]? = some (.int .u8 (d.id : Int)) := rfl
theorem drv_2 (d : Dr) : (drv d)[2]? = some (.bool d.backup) := rfl
theorem drv_3 (d : Dr) : (drv d)[3]? = some (.int .u32 (d.token : Int)) := rfl
theorem drv_4 (d : Dr) : (drv d)[4]? = some (.int .u32 (d.nonce : Int)) := rfl
theorem drv_m (d : Dr) (j : Nat) (hj : j < d.m.length) : (drv d)[5 + j]? = some (.int .u8 (d.m[j].toNat : Int)) := by
  unfold drv
  rw [List.getElem?_toArray, Nat.add_comm 5 j]
  show (d.m.map fun b => Value.int .u8 (b.toNat : Int))[j]? = _
  simp [hj]
theorem arr_len : Tryd.prog.arrayLen 31 = 20 := by kernel_rfl
theorem arr_elem (w : World) : (sizeOf (Tryd.prog.elem 31)).run Tryd.prog w = .ok 1 w := by kernel_rfl
theorem arr_under : Tryd.prog.underlying 31 = some (.array (Tryd.prog.arrayLen 31) (Tryd.prog.elem 31)) := by kernel_rfl
theorem off_add (g o j : Nat) : (⟨g, o, none⟩ : Addr).add j = ⟨g, o + j, none⟩ := by unfold Addr.add; split <;> simp_all
theorem m_front (w : World) (g : Nat) : (Instr.sliceAt 31 (.pointer (some ⟨g, 5, none⟩)) none (some (.int .i64 8)) none).run Tryd.prog w = .ok (.slice (some ⟨g, 5, none⟩) 8 20) w := by
  have h := run_sliceAt_array_h (P := Tryd.prog) w 31 ⟨g, 5, none⟩ arr_under .i64 8 (by omega) (by rw [arr_len]; omega)
  rw [h, arr_elem]
  simp only [Result.andThen_ok, slicedAt, arr_len]; rfl
theorem m_all (w : World) (g : Nat) : (Instr.sliceAt 31 (.pointer (some ⟨g, 5, none⟩)) none none none).run Tryd.prog w = .ok (.slice (some ⟨g, 5, none⟩) 20 20) w := by
  rw [run_sliceAt_array_all w 31 ⟨g, 5, none⟩ arr_under, arr_elem]
  simp only [Result.andThen_ok, slicedAt, arr_len]; rfl
theorem m_text (w : World) (g : Nat) (d : Dr) (n cap : Nat) (hn : n ≤ d.m.length) (h : Blk w g 33 (drv d)) : (convert 36 9 (.slice (some ⟨g, 5, none⟩) n cap)).run Tryd.prog w = .ok (.string (txt (d.m.take n))) w := by
  have q := run_convert_bytes_back (P := Tryd.prog) w 36 9 5 ⟨g, 5, none⟩ cap (d.m.take n) Tryd.underlying36 Tryd.underlying5 Tryd.underlying9 (fun j hj => by
    have hj' : j < n ∧ j < d.m.length := by rw [List.length_take] at hj; omega
    rw [off_add, h.cell, drv_m d j hj'.2, List.getElem_take])
  rw [List.length_take, Nat.min_eq_left hn] at q
  exact q
theorem conv_u8_int (u : Nat) (h : u ≤ 255) (w : World) : (convert 5 3 (.int .u8 (u : Int))).run Tryd.prog w = .ok (.int .i64 (u : Int)) w := by
  rw [run_convert_int w 5 3 .u8 _ (by kernel_rfl) (by kernel_rfl), show Tryd.prog.intKind 3 = .i64 by kernel_rfl, IntKind.wrap_i64, show ((u : Int) + 9223372036854775808) % 18446744073709551616 - 9223372036854775808 = (u : Int) by omega]
theorem wrap_id (u : Nat) (h : u ≤ 255) : wrap64 (u : Int) = (u : Int) := by unfold wrap64; omega
theorem dr_end (d : Dr) (w W : World) (r : Nat) {a : Act} (ht : a.tmps.getD 2 undef = .pointer (some ⟨r, 0, none⟩)) (hd : a.defers = []) (cs : Array Value) (hc : cs = jnv d.jn) (old : Array Value) (hr : Blk W r 24 old) (hb : Below w.heap.size w W) (hwr : w.heap.size ≤ r) :
    bodyPost Tryd.prog Tryd.f13 (fun e w' => e = .returned (.agg (jnv d.jn)) ∧ Below w.heap.size w w') .ret a (W.setRow r cs) := by
  subst hc
  exact bodyPost_ret (results_cell_row rfl _ _ r 24 (jnv d.jn) (0, 0) _ ht (setRow_heap _ _ _ _ _ _ hr) Tryd.underlying24 rfl jn_size) hd ⟨rfl, below_setRow hb hwr _⟩
set_option maxHeartbeats 1000000 in
set_option maxRecDepth 100000 in
theorem Draft_any (d : Dr) (hd : d.Ok) (w : World) :
    Calls Tryd.prog 13 #[.agg (drv d)] w fun e w' => e = .returned (.agg (jnv d.jn)) ∧ Below w.heap.size w w' := by
  obtain ⟨V, hV⟩ : ∃ V, V = (w.alloc (.cells (drv d) 33)).alloc (.cells #[.int .i64 0, .bool false, .int .i64 0, .int .u32 0, .int .u32 0, .string ⟨#[]⟩] 24) := ⟨_, rfl⟩
  obtain ⟨b0, hb0⟩ : ∃ b0, b0 = w.heap.size := ⟨_, rfl⟩
  obtain ⟨r, hr⟩ : ∃ r, r = w.heap.size + 1 := ⟨_, rfl⟩
  have hx : Blk V b0 33 (drv d) := by rw [hV, hb0]; exact (Blk.new _ _ _).alloc _
  have hz : Blk V r 24 #[.int .i64 0, .bool false, .int .i64 0, .int .u32 0, .int .u32 0, .string ⟨#[]⟩] := by
    rw [hV, hr]
    have := Blk.new (w.alloc (.cells (drv d) 33)) 24 #[.int .i64 0, .bool false, .int .i64 0, .int .u32 0, .int .u32 0, .string ⟨#[]⟩]
    simpa using this
  have HX := Lib.hid hx
  have HZ := Lib.hid hz
  have HBV := Lib.hid (show Below w.heap.size w V by rw [hV]; exact ((Below.refl _ w).alloc (Nat.le_refl _) _).alloc (by simp) _)
  have HWR := Lib.hid (show w.heap.size ≤ r by omega)
  have c0 := hx.cell 0
  have c1 := hx.cell 1
  have c2 := hx.cell 2
  have c3 := hx.cell 3
  have c4 := hx.cell 4
  rw [drv_0] at c0
  rw [drv_1] at c1
  rw [drv_2] at c2
  rw [drv_3] at c3
  rw [drv_4] at c4
  have e1 := wrap_id d.id hd.id
  have HVE := Lib.hid hV
  have HB0 := Lib.hid hb0
  have HR := Lib.hid hr
  have HD := Lib.hid hd
  clear hV hb0 hr hx hz hd
  obtain ⟨J, hJ⟩ : ∃ J, J = d.jn := ⟨_, rfl⟩
  have h3 : d.what % 3 = 0 ∨ d.what % 3 = 1 ∨ d.what % 3 = 2 := by omega
  rcases h3 with h | h | h
  · have HJ := Lib.hid (show d.jn = ⟨0, d.backup, d.id, d.token, d.nonce, ⟨#[]⟩⟩ by unfold Dr.jn; rw [if_pos h])
    have e0 : ((d.what : Int) % 3 == 0) = true := by rw [beq_iff_eq]; omega
    have f0 : ((d.what : Int) % 3 % 256 == 0) = true := by rw [beq_iff_eq]; omega
    clear hJ h
    go_enter Tryd.func13, Tryd.ntmps13
    go_upto_region 1 with fail
    rw [← HVE.out, ← HR.out, ← HB0.out]
    go_wp2_with (refine wpList_store_row rfl 24 _ _ rfl r #[.int .i64 0, .bool d.backup, .int .i64 (d.id : Int), .int .u32 (d.token : Int), .int .u32 (d.nonce : Int), .string ⟨#[]⟩] rfl rfl 24 #[.int .i64 0, .bool false, .int .i64 0, .int .u32 0, .int .u32 0, .string ⟨#[]⟩] ?_ jn_size rfl (by simp [Value.oneCell']) ?_; exact HZ.out)
    exact dr_end d w V r rfl rfl _ (by rw [HJ.out]) _ HZ.out HBV.out HWR.out
  · have HJ := Lib.hid (show d.jn = ⟨1, d.backup, d.id, 0, d.nonce, txt (d.m.take 8)⟩ by unfold Dr.jn; rw [if_neg (by omega), if_pos h])
    have e0 : ((d.what : Int) % 3 == 0) = false := by rw [beq_eq_false_iff_ne]; omega
    have f0 : ((d.what : Int) % 3 % 256 == 0) = false := by rw [beq_eq_false_iff_ne]; omega
    have e2 : ((d.what : Int) % 3 == 1) = true := by rw [beq_iff_eq]; omega
    have f2 : ((d.what : Int) % 3 % 256 == 1) = true := by rw [beq_iff_eq]; omega
    obtain ⟨T, hT⟩ : ∃ T, T = txt (d.m.take 8) := ⟨_, rfl⟩
    have HT := Lib.hid hT
    clear hJ h hT
    go_enter Tryd.func13, Tryd.ntmps13
    go_upto_region 1 with fail
    rw [← HVE.out, ← HR.out, ← HB0.out]
    go_upto_region 5 with fail
    have B0 : Below V.heap.size V V.drew := (Below.refl _ V).drew
    refine walk_start 11 (fun W => Below V.heap.size V W) (by kernel_rfl) (n := 12) rfl ?_
    obtain ⟨W0, hW0⟩ : ∃ W0, W0 = V.drew := ⟨_, rfl⟩
    rw [← hW0] at B0 ⊢
    clear hW0
    refine walk_free 0 (.pointer (some ⟨b0, 2, none⟩)) rfl (by kernel_rfl) (by kernel_rfl) (by kernel_rfl) (by kernel_rfl) (by kernel_rfl) (by kernel_rfl) B0 (fun _ _ => ex_field (v := .pointer (some ⟨b0, 0, none⟩)) 33 (.tmp 1) 2 (by kernel_rfl) (by kernel_rfl) (by kernel_rfl)) ?_
    refine walk_free 1 (.bool d.backup) rfl (by kernel_rfl) (by kernel_rfl) (by kernel_rfl) (by kernel_rfl) (by kernel_rfl) (by kernel_rfl) B0 (fun W b => ex_load 4 (.tmp 20) (by kernel_rfl) ⟨b0, 2, none⟩ (by kernel_rfl) (by kernel_rfl) (((HX.out.below b HX.out.lt).cell 2).trans (drv_2 d))) ?_
    refine walk_free 2 (.pointer (some ⟨b0, 1, none⟩)) rfl (by kernel_rfl) (by kernel_rfl) (by kernel_rfl) (by kernel_rfl) (by kernel_rfl) (by kernel_rfl) B0 (fun _ _ => ex_field (v := .pointer (some ⟨b0, 0, none⟩)) 33 (.tmp 1) 1 (by kernel_rfl) (by kernel_rfl) (by kernel_rfl)) ?_
    refine walk_free 3 (.int .u8 (d.id : Int)) rfl (by kernel_rfl) (by kernel_rfl) (by kernel_rfl) (by kernel_rfl) (by kernel_rfl) (by kernel_rfl) B0 (fun W b => ex_load 5 (.tmp 22) (by kernel_rfl) ⟨b0, 1, none⟩ (by kernel_rfl) (by kernel_rfl) (((HX.out.below b HX.out.lt).cell 1).trans (drv_1 d))) ?_
    refine walk_free 4 (.int .i64 (d.id : Int)) rfl (by kernel_rfl) (by kernel_rfl) (by kernel_rfl) (by kernel_rfl) (by kernel_rfl) (by kernel_rfl) B0 (fun W _ => ex_convert_to (v := .int .u8 (d.id : Int)) 5 3 (.tmp 23) (by kernel_rfl) (by kernel_rfl) (conv_u8_int d.id HD.out.id W)) ?_
    refine walk_free 5 (.pointer (some ⟨b0, 4, none⟩)) rfl (by kernel_rfl) (by kernel_rfl) (by kernel_rfl) (by kernel_rfl) (by kernel_rfl) (by kernel_rfl) B0 (fun _ _ => ex_field (v := .pointer (some ⟨b0, 0, none⟩)) 33 (.tmp 1) 4 (by kernel_rfl) (by kernel_rfl) (by kernel_rfl)) ?_
    refine walk_free 6 (.int .u32 (d.nonce : Int)) rfl (by kernel_rfl) (by kernel_rfl) (by kernel_rfl) (by kernel_rfl) (by kernel_rfl) (by kernel_rfl) B0 (fun W b => ex_load 22 (.tmp 25) (by kernel_rfl) ⟨b0, 4, none⟩ (by kernel_rfl) (by kernel_rfl) (((HX.out.below b HX.out.lt).cell 4).trans (drv_4 d))) ?_
    refine walk_free 7 (.pointer (some ⟨b0, 5, none⟩)) rfl (by kernel_rfl) (by kernel_rfl) (by kernel_rfl) (by kernel_rfl) (by kernel_rfl) (by kernel_rfl) B0 (fun _ _ => ex_field (v := .pointer (some ⟨b0, 0, none⟩)) 33 (.tmp 1) 5 (by kernel_rfl) (by kernel_rfl) (by kernel_rfl)) ?_
    refine walk_free 8 (.slice (some ⟨b0, 5, none⟩) 8 20) rfl (by kernel_rfl) (by kernel_rfl) (by kernel_rfl) (by kernel_rfl) (by kernel_rfl) (by kernel_rfl) B0 (fun W _ => ex_slice_front (v := .pointer (some ⟨b0, 5, none⟩)) (hv := .int .i64 8) 31 (.tmp 27) (.const (.int .i64 8)) (by kernel_rfl) (by kernel_rfl) (by kernel_rfl) (m_front W b0)) ?_
    refine walk_free 9 (.string T) rfl (by kernel_rfl) (by kernel_rfl) (by kernel_rfl) (by kernel_rfl) (by kernel_rfl) (by kernel_rfl) B0 (fun W b => ex_convert_to (v := .slice (some ⟨b0, 5, none⟩) 8 20) 36 9 (.tmp 28) (by kernel_rfl) (by kernel_rfl) (by rw [HT.out]; exact m_text W b0 d 8 20 (by have := HD.out.m; omega) (HX.out.below b HX.out.lt))) ?_
    refine walk_free 10 (.agg #[.int .i64 1, .bool d.backup, .int .i64 (d.id : Int), .int .u32 0, .int .u32 (d.nonce : Int), .string T]) rfl (by kernel_rfl) (by kernel_rfl) (by kernel_rfl) (by kernel_rfl) (by kernel_rfl) (by kernel_rfl) B0 (fun _ _ => by kernel_rfl) ?_
    refine walk_one 11 (by kernel_rfl) (do_last 11 rfl (by kernel_rfl) (ex_store_row 24 (.tmp 2) (.tmp 30) (by kernel_rfl) r #[.int .i64 1, .bool d.backup, .int .i64 (d.id : Int), .int .u32 0, .int .u32 (d.nonce : Int), .string T] (by kernel_rfl) (by kernel_rfl) 24 #[.int .i64 0, .bool false, .int .i64 0, .int .u32 0, .int .u32 0, .string ⟨#[]⟩] (HZ.out.below B0 HZ.out.lt) jn_size rfl (by simp [Value.oneCell'])) (by kernel_rfl) ?_)
    refine walk_end (by kernel_rfl) ?_
    go_wp2_with fail
    exact dr_end d w W0 r (by kernel_rfl) (by kernel_rfl) _ (by rw [HJ.out, HT.out]; rfl) _ (HZ.out.below B0 HZ.out.lt) (HBV.out.trans (B0.mono HBV.out.size)) HWR.out
  · have HJ := Lib.hid (show d.jn = ⟨2, false, 0, 0, 0, txt d.m⟩ by unfold Dr.jn; rw [if_neg (by omega), if_neg (by omega)])
    have e0 : ((d.what : Int) % 3 == 0) = false := by rw [beq_eq_false_iff_ne]; omega
    have f0 : ((d.what : Int) % 3 % 256 == 0) = false := by rw [beq_eq_false_iff_ne]; omega
    have e2 : ((d.what : Int) % 3 == 1) = false := by rw [beq_eq_false_iff_ne]; omega
    have f2 : ((d.what : Int) % 3 % 256 == 1) = false := by rw [beq_eq_false_iff_ne]; omega
    have hsl := m_all V b0
    have hcv := m_text V b0 d 20 20 (by have := HD.out.m; omega) HX.out
    rw [List.take_of_length_le (by have := HD.out.m; omega)] at hcv
    obtain ⟨T, hT⟩ : ∃ T, T = txt d.m := ⟨_, rfl⟩
    rw [← hT] at hcv
    have HT := Lib.hid hT
    clear hJ h hT
    go_enter Tryd.func13, Tryd.ntmps13
    go_upto_region 1 with fail
    rw [← HVE.out, ← HR.out, ← HB0.out]
    go_upto_region 6 with fail
    go_wp2_with (refine wpList_store_row rfl 24 _ _ rfl r #[.int .i64 2, .bool false, .int .i64 0, .int .u32 0, .int .u32 0, .string T] rfl rfl 24 #[.int .i64 0, .bool false, .int .i64 0, .int .u32 0, .int .u32 0, .string ⟨#[]⟩] ?_ jn_size rfl (by simp [Value.oneCell']) ?_; exact HZ.out)
    have HF := Lib.hid (show #[.int .i64 2, .bool false, .int .i64 0, .int .u32 0, .int .u32 0, .string T] = jnv d.jn by rw [HJ.out, HT.out]; rfl)
    exact dr_end d w V r rfl rfl _ HF.out _ HZ.out HBV.out HWR.out
end Go.Proofs.YthnokkcpmikajaaDoor
