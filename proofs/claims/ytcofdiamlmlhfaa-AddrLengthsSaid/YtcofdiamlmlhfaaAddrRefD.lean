/-
  The document's own DecodeAdd and DecodeRemove of layer 12, by their walks.
-/
import Derived.Test.YtcofdiamlmlhfaaAddrRefE
import Derived.Test.YtcofdiamlmlhfaaAddrDec
import Derived.LoopN
namespace Go.Proofs.Ytcofdiamlmlhfaa
open Go.ChangeShapes Go.WideShapes Go.ChangeAt Go.RowKit
set_option linter.unusedVariables false

/-- A store, alone, amid a region. -/
theorem held_skip {P : Program} {ops : Array Oper} {S : World → Prop} {Q : Exit → Act → World → Prop} {md : Region.Mode} {fuel : Nat} {listed : Array Bool} {a : Act} {w : World} (i : Nat) {o : Oper} {w' : World} (hi : ops[i]? = some o) (hr : Region.ready md ops listed = [i]) (hw : Region.wanted o (yielded ops a.tmps) = true)
    (he : (execOp a.eval o).run P w = .ok .skip w') (hS : S w') (h : wpAnyH P md ops Q S fuel (listed.setIfInBounds i true) (a.put o.dst undef) w') : wpAnyH P md ops Q S (fuel + 1) listed a w := by
  refine held_op hi hr hw ?_
  unfold Oper.wp
  rw [he]
  exact ⟨hS, h⟩
theorem ex_byte {ρ : Operand → Value} {o : Oper} {w : World} (t : TypeId) (x y : Operand) (ho : o.op = .index t x y) (s : ByteArray) (i c : Nat) (hx : ρ x = .string s) (hy : ρ y = .int .i64 (i : Int)) (ht : Try.prog.underlying t = some .string) (hi : i < s.size) (hc : byteAt s i = c) :
    (execOp ρ o).run Try.prog w = .ok (.value (.int .u8 (c : Int))) w := by
  have hg := byteAt_get s i hi
  rw [hc] at hg
  have q : s[i]? = some s[i] := by simp [hi]
  unfold execOp
  rw [ho]
  simp [hx, hy, Instr.index, run_underlying ht, asIntOf, q, hg]
theorem ex_slice_mid {P : Program} {ρ : Operand → Value} {o : Oper} {w : World} (t : TypeId) (x l h : Operand) (ho : o.op = .slice t x (some l) (some h) none) {v lv hv r : Value} (hx : ρ x = v) (hl : ρ l = lv) (hh : ρ h = hv) (he : (Instr.sliceAt t v (some lv) (some hv) none).run P w = .ok r w) :
    (execOp ρ o).run P w = .ok (.value r) w := by
  unfold execOp
  rw [ho]
  simp [hx, hl, hh, he]
theorem str_mid (s : ByteArray) (l h : Nat) (h1 : l ≤ h) (h2 : h ≤ s.size) (Z : ByteArray) (hZ : s.extract l h = Z) (w : World) : (Instr.sliceAt 9 (.string s) (some (.int .i64 (l : Int))) (some (.int .i64 (h : Int))) none).run Try.prog w = .ok (.string Z) w := by
  subst hZ
  have a1 : (l : Int) ≤ (h : Int) := by omega
  have a2 : (h : Int) ≤ (s.size : Int) := by omega
  simp [Instr.sliceAt, Instr.slice, run_underlying Try.underlying9, Instr.sliceBounds, run_sliceBound, a1, a2]
theorem str_tail (s : ByteArray) (k : Nat) (h : k ≤ s.size) (Z : ByteArray) (hZ : s.extract k s.size = Z) (w : World) : (Instr.sliceAt 9 (.string s) (some (.int .i64 (k : Int))) none none).run Try.prog w = .ok (.string Z) w := by
  subst hZ
  have a1 : (k : Int) ≤ (s.size : Int) := by omega
  simp [Instr.sliceAt, Instr.slice, run_underlying Try.underlying9, Instr.sliceBounds, run_sliceBound, a1]
theorem conv_u8_int (u : Nat) (h : u ≤ 255) (w : World) : (convert 5 3 (.int .u8 (u : Int))).run Try.prog w = .ok (.int .i64 (u : Int)) w := by
  rw [run_convert_int w 5 3 .u8 _ (by kernel_rfl) (by kernel_rfl), show Try.prog.intKind 3 = .i64 by kernel_rfl, IntWalk.i64_in _ (by omega)]
theorem conv_u64_int (u : Nat) (h : u ≤ 65535) (w : World) : (convert 57 3 (.int .u64 (u : Int))).run Try.prog w = .ok (.int .i64 (u : Int)) w := by
  rw [run_convert_int w 57 3 .u64 _ (by kernel_rfl) (by kernel_rfl), show Try.prog.intKind 3 = .i64 by kernel_rfl, IntWalk.i64_in _ (by omega)]
theorem decD_end (s : ByteArray) (w W : World) (r : Nat) (x : Ad) (z : Int) {a : Act} (ht : a.tmps.getD 2 undef = .pointer (some ⟨r, 0, none⟩)) (hz : a.tmps.getD 3 undef = .int .i64 z) (hd : a.defers = []) (cs : Array Value) (hc : cs = adv x) (old : Array Value) (hr : Blk W r 23 old) (hb : Below w.heap.size w W) (hwr : w.heap.size ≤ r) (hq : decA s = (x, z)) :
    bodyPost Try.prog Try.f16 (fun e w' => e = .returned (decV s) ∧ Below w.heap.size w w') .ret a (W.setRow r cs) := by
  subst hc
  have h := results_row_tmp (fn := Try.f16) rfl a.tmps (W.setRow r (adv x)) r 23 (adv x) (0, 0) _ ht (setRow_heap _ _ _ _ _ _ hr) Try.underlying23 rfl ad_size
  rw [hz] at h
  exact bodyPost_ret h hd ⟨by rw [decV_eq s x z hq], below_setRow hb hwr _⟩
theorem decDR_end (s : ByteArray) (w W : World) (r : Nat) (x : ByteArray) (z : Int) {a : Act} (ht : a.tmps.getD 2 undef = .pointer (some ⟨r, 0, none⟩)) (hz : a.tmps.getD 3 undef = .int .i64 z) (hd : a.defers = []) (cs : Array Value) (hc : cs = rmv x) (old : Array Value) (hr : Blk W r 29 old) (hb : Below w.heap.size w W) (hwr : w.heap.size ≤ r) (hq : decR s = (x, z)) :
    bodyPost Try.prog Try.f18 (fun e w' => e = .returned (decRV s) ∧ Below w.heap.size w w') .ret a (W.setRow r cs) := by
  subst hc
  have h := results_row_tmp (fn := Try.f18) rfl a.tmps (W.setRow r (rmv x)) r 29 (rmv x) (0, 0) _ ht (setRow_heap _ _ _ _ _ _ hr) Try.underlying29 rfl rm_size
  rw [hz] at h
  exact bodyPost_ret h hd ⟨by rw [decRV_eq s x z hq], below_setRow hb hwr _⟩
theorem cut_2 (s : ByteArray) (k : Nat) : s.extract 2 (2 + k) = txt ((after2 s).take k) := by
  apply ByteArray.ext
  apply Array.toList_inj.1
  rw [ByteArray.data_extract, Array.toList_extract, List.extract_eq_take_drop]
  show _ = (s.data.toList.drop 2).take k
  congr 1; omega
theorem tail_2 (s : ByteArray) (k : Nat) : s.extract (2 + k) s.size = txt ((after2 s).drop k) := by
  have h := txt_back s.data.toList (2 + k)
  rw [show txt s.data.toList = s from rfl] at h
  rw [h, List.drop_drop]
theorem num_after (s : ByteArray) (k m : Nat) : num (txt (after2 s)) k m = num s (2 + k) m := by
  apply num_congr
  intro j _
  rw [txt_list, List.getD_eq_getElem?_getD, List.getD_eq_getElem?_getD, List.getElem?_drop, Nat.add_assoc 2 k j]
set_option maxHeartbeats 1000000 in
set_option maxRecDepth 100000 in
theorem decD_short (s : ByteArray) (hem : (s.toList == []) = true) (hd : decA s = (.zero, 4)) (w : World) :
    Calls Try.prog 16 #[.string s] w fun e w' => e = .returned (decV s) ∧ Below w.heap.size w w' := by
  have HD := Lib.hid hd
  clear hd
  obtain ⟨r, hr⟩ : ∃ r, r = w.heap.size := ⟨_, rfl⟩
  obtain ⟨w0, hw0⟩ : ∃ w0, w0 = w.alloc (.cells #[.bool false, .int .i64 0, .string ⟨#[]⟩, .bool false, .int .i64 0, .string ⟨#[]⟩] 23) := ⟨_, rfl⟩
  have HZ := Lib.hid (show Blk w0 r 23 (adv Ad.zero) by rw [hw0, hr]; exact Blk.new _ _ _)
  have HB0 := Lib.hid (show Below w.heap.size w w0 by rw [hw0]; exact (Below.refl _ w).alloc (Nat.le_refl _) _)
  have HR := Lib.hid (show w.heap.size ≤ r by omega)
  have HR2 := Lib.hid hr
  have HW0 := Lib.hid hw0
  clear hr hw0
  go_enter Try.func16, Try.ntmps16
  go_upto_region 1 with fail
  rw [← HW0.out, ← HR2.out]
  go_wp2_with (refine wpList_store_row rfl 23 _ _ rfl r (adv Ad.zero) rfl rfl 23 (adv Ad.zero) ?_ ad_size rfl (ad_one _) ?_; exact HZ.out)
  exact decD_end s w w0 r Ad.zero 4 rfl rfl rfl _ rfl _ HZ.out HB0.out HR.out HD.out
set_option maxHeartbeats 1000000 in
set_option maxRecDepth 100000 in
theorem decD_kind (s : ByteArray) (hem : (s.toList == []) = false) (h0 : 0 < s.size) (l0 : (0 : Int) < (s.size : Int)) (F : Nat) (hF8 : F < 256) (hF0 : (s[0].toNat : Int) = (F : Int)) (e0 : ((F : Int) / 16 != 3) = true) (hd : decA s = (.zero, 7)) (w : World) :
    Calls Try.prog 16 #[.string s] w fun e w' => e = .returned (decV s) ∧ Below w.heap.size w w' := by
  have HD := Lib.hid hd
  clear hd
  obtain ⟨r, hr⟩ : ∃ r, r = w.heap.size := ⟨_, rfl⟩
  obtain ⟨w0, hw0⟩ : ∃ w0, w0 = w.alloc (.cells #[.bool false, .int .i64 0, .string ⟨#[]⟩, .bool false, .int .i64 0, .string ⟨#[]⟩] 23) := ⟨_, rfl⟩
  have HZ := Lib.hid (show Blk w0 r 23 (adv Ad.zero) by rw [hw0, hr]; exact Blk.new _ _ _)
  have HB0 := Lib.hid (show Below w.heap.size w w0 by rw [hw0]; exact (Below.refl _ w).alloc (Nat.le_refl _) _)
  have HR := Lib.hid (show w.heap.size ≤ r by omega)
  have HR2 := Lib.hid hr
  have HW0 := Lib.hid hw0
  clear hr hw0
  go_enter Try.func16, Try.ntmps16
  go_upto_region 1 with fail
  rw [← HW0.out, ← HR2.out]
  go_wp2_with (refine wpList_store_row rfl 23 _ _ rfl r (adv Ad.zero) rfl rfl 23 (adv Ad.zero) ?_ ad_size rfl (ad_one _) ?_; exact HZ.out)
  exact decD_end s w w0 r Ad.zero 7 rfl rfl rfl _ rfl _ HZ.out HB0.out HR.out HD.out
set_option maxHeartbeats 1000000 in
set_option maxRecDepth 100000 in
theorem decD_f0 (s : ByteArray) (hs : s.size ≤ 9223372036854775807) (hem : (s.toList == []) = false) (h0 : 0 < s.size) (l0 : (0 : Int) < (s.size : Int)) (F : Nat) (hF8 : F < 256) (hF0 : (s[0].toNat : Int) = (F : Int)) (e0 : ((F : Int) / 16 != 3) = false) (eE : ((F : Int) % 2 == 1) = false) (z0 : s.size = 14) (hd : decA s = (gotA false (byteAt s 1) (after2 s) 4 false, 0)) (w : World) :
    Calls Try.prog 16 #[.string s] w fun e w' => e = .returned (decV s) ∧ Below w.heap.size w w' := by
  have HD := Lib.hid hd
  have HS := Lib.hid hs
  clear hd
  have HSZ := Lib.hid z0
  have e0 : ((s.size : Int) != 14) = false := by rw [bne_eq_false_iff_eq]; omega
  clear z0
  obtain ⟨r, hr⟩ : ∃ r, r = w.heap.size := ⟨_, rfl⟩
  obtain ⟨w0, hw0⟩ : ∃ w0, w0 = w.alloc (.cells #[.bool false, .int .i64 0, .string ⟨#[]⟩, .bool false, .int .i64 0, .string ⟨#[]⟩] 23) := ⟨_, rfl⟩
  have HZ := Lib.hid (show Blk w0 r 23 (adv Ad.zero) by rw [hw0, hr]; exact Blk.new _ _ _)
  have HB0 := Lib.hid (show Below w.heap.size w w0 by rw [hw0]; exact (Below.refl _ w).alloc (Nat.le_refl _) _)
  have HR := Lib.hid (show w.heap.size ≤ r by omega)
  have HR2 := Lib.hid hr
  have HW0 := Lib.hid hw0
  clear hr hw0
  go_enter Try.func16, Try.ntmps16
  go_upto_region 1 with fail
  rw [← HW0.out, ← HR2.out]
  go_wp2_with fail
  refine wp_loop_rounds 3 ?_
  rw [rounds_succ]
  go_wp2_with fail
  refine wp_loop_rounds 3 ?_
  rw [rounds_succ]
  go_wp2_with fail
  obtain ⟨c, hc⟩ : ∃ c, c = w0.heap.size := ⟨_, rfl⟩
  obtain ⟨w1, hw1⟩ : ∃ W, W = w0.alloc (.cells #[.string s, .int .i64 6, .bool false] 74) := ⟨_, rfl⟩
  have hcur : Ref w1 c s 6 false := by rw [hw1, hc]; exact Blk.new _ _ _
  have HZ1 := HZ.out.alloc (.cells #[.string s, .int .i64 6, .bool false] 74)
  have HB1 := HB0.out.alloc HB0.out.size (.cells #[.string s, .int .i64 6, .bool false] 74)
  have HRC : r ≠ c := by have := HZ.out.lt; omega
  rw [← hw1] at HZ1 HB1
  rw [← hw1, ← hc]
  refine (Num_ref c s 6 false 0 (by decide) w1 HS.out (by have := HSZ.out; omega) hcur).mono ?_
  rintro e V ⟨rfl, mv⟩
  have HZV := Lib.hid (HZ1.grown mv.1 (by simpa using HRC))
  have HBV := Lib.hid (HB1.trans (below_of_only mv.1 (by have := HB0.out.size; omega) HB1.size))
  obtain ⟨N, hN⟩ : ∃ N, N = numO s 6 false 0 := ⟨_, rfl⟩
  rw [← hN]
  have hNn : N = num (txt (after2 s)) 4 (portOf false) := by rw [hN, numO_t (by unfold fits; have := HSZ.out; simp; omega), num_after]; rfl
  have HNN := Lib.hid hNn
  have HN16 := Lib.hid (show N ≤ 65535 by rw [hNn]; exact Nat.zero_le _)
  obtain ⟨C, hC⟩ : ∃ C, byteAt s 1 = C := ⟨_, rfl⟩
  have HC := Lib.hid hC
  have HC8 := Lib.hid (show C ≤ 255 by have := byteAt_lt s 1; omega)
  have HL := Lib.hid (show 1 < s.size by have := HSZ.out; omega)
  obtain ⟨TI, hTI⟩ : ∃ T, s.extract 2 6 = T := ⟨_, rfl⟩
  obtain ⟨TM, hTM⟩ : ∃ T, s.extract 6 s.size = T := ⟨_, rfl⟩
  have HTI := Lib.hid hTI
  have HTM := Lib.hid hTM
  have HEQ := Lib.hid (show #[.bool false, .int .i64 (C : Int), .string TI, .bool false, .int .i64 (N : Int), .string TM] = adv (gotA false (byteAt s 1) (after2 s) 4 false) by
    show _ = (#[.bool false, .int .i64 ((byteAt s 1 : Nat) : Int), .string (txt ((after2 s).take 4)), .bool false, .int .i64 (num (txt (after2 s)) 4 (portOf false) : Int), .string (txt ((after2 s).drop (4 + portOf false)))] : Array Value)
    rw [hC, ← hTI, ← hTM, hNn, ← cut_2, ← tail_2]; rfl)
  clear hc hw1 hcur HZ1 HB1 HRC mv hN hNn hC hTI hTM
  go_upto_region 18 with fail
  have B0 : True := trivial
  refine held_start (fun _ => True) (by kernel_rfl) (n := 21) rfl ?_
  obtain ⟨W0, hW0⟩ : ∃ W0, W0 = V.drew := ⟨_, rfl⟩
  rw [← hW0]
  have HWD := Lib.hid hW0
  clear hW0
  refine held_free 0 (.bool false) rfl (by kernel_rfl) (by kernel_rfl) (by kernel_rfl) (by kernel_rfl) B0 (fun _ _ => by kernel_rfl) ?_
  refine held_free 1 (.string s) rfl (by kernel_rfl) (by kernel_rfl) (by kernel_rfl) (by kernel_rfl) B0 (fun _ _ => by kernel_rfl) ?_
  refine held_free 2 (.int .u8 (C : Int)) rfl (by kernel_rfl) (by kernel_rfl) (by kernel_rfl) (by kernel_rfl) B0 (fun _ _ => ex_byte 9 (.tmp 49) (.const (.int .i64 1)) (by kernel_rfl) s 1 C (by kernel_rfl) (by kernel_rfl) (by kernel_rfl) HL.out HC.out) ?_
  refine held_free 3 (.int .i64 (C : Int)) rfl (by kernel_rfl) (by kernel_rfl) (by kernel_rfl) (by kernel_rfl) B0 (fun W _ => ex_convert_to (v := .int .u8 (C : Int)) 5 3 (.tmp 50) (by kernel_rfl) (by kernel_rfl) (conv_u8_int C HC8.out W)) ?_
  refine held_free 4 (.string s) rfl (by kernel_rfl) (by kernel_rfl) (by kernel_rfl) (by kernel_rfl) B0 (fun _ _ => by kernel_rfl) ?_
  refine held_free 5 (.int .i64 4) rfl (by kernel_rfl) (by kernel_rfl) (by kernel_rfl) (by kernel_rfl) B0 (fun _ _ => by kernel_rfl) ?_
  refine held_free 6 (.int .i64 6) rfl (by kernel_rfl) (by kernel_rfl) (by kernel_rfl) (by kernel_rfl) B0 (fun _ _ => by kernel_rfl) ?_
  refine held_free 7 (.string TI) rfl (by kernel_rfl) (by kernel_rfl) (by kernel_rfl) (by kernel_rfl) B0 (fun W _ => ex_slice_mid (v := .string s) (lv := .int .i64 2) (hv := .int .i64 6) 9 (.tmp 52) (.const (.int .i64 2)) (.tmp 54) (by kernel_rfl) (by kernel_rfl) (by kernel_rfl) (by kernel_rfl) (str_mid s 2 6 (by decide) (by have := HSZ.out; omega) TI HTI.out W)) ?_
  refine held_free 8 (.int .i64 0) rfl (by kernel_rfl) (by kernel_rfl) (by kernel_rfl) (by kernel_rfl) B0 (fun _ _ => by kernel_rfl) ?_
  refine held_free 9 (.bool false) rfl (by kernel_rfl) (by kernel_rfl) (by kernel_rfl) (by kernel_rfl) B0 (fun _ _ => ex_inteqb .i64 3 3 (.tmp 56) (.const (.int .i64 2)) (by kernel_rfl) (0) (2) (by kernel_rfl) (by kernel_rfl) (by kernel_rfl) false ((by decide))) ?_
  refine held_free 10 (.int .u64 (N : Int)) rfl (by kernel_rfl) (by kernel_rfl) (by kernel_rfl) (by kernel_rfl) B0 (fun _ _ => by kernel_rfl) ?_
  refine held_free 11 (.int .i64 (N : Int)) rfl (by kernel_rfl) (by kernel_rfl) (by kernel_rfl) (by kernel_rfl) B0 (fun W _ => ex_convert_to (v := .int .u64 (N : Int)) 57 3 (.tmp 58) (by kernel_rfl) (by kernel_rfl) (conv_u64_int N HN16.out W)) ?_
  refine held_free 12 (.string s) rfl (by kernel_rfl) (by kernel_rfl) (by kernel_rfl) (by kernel_rfl) B0 (fun _ _ => by kernel_rfl) ?_
  refine held_free 13 (.int .i64 4) rfl (by kernel_rfl) (by kernel_rfl) (by kernel_rfl) (by kernel_rfl) B0 (fun _ _ => by kernel_rfl) ?_
  refine held_free 14 (.int .i64 6) rfl (by kernel_rfl) (by kernel_rfl) (by kernel_rfl) (by kernel_rfl) B0 (fun _ _ => by kernel_rfl) ?_
  refine held_free 15 (.int .i64 0) rfl (by kernel_rfl) (by kernel_rfl) (by kernel_rfl) (by kernel_rfl) B0 (fun _ _ => by kernel_rfl) ?_
  refine held_free 16 (.int .i64 6) rfl (by kernel_rfl) (by kernel_rfl) (by kernel_rfl) (by kernel_rfl) B0 (fun _ _ => by kernel_rfl) ?_
  refine held_free 17 (.string TM) rfl (by kernel_rfl) (by kernel_rfl) (by kernel_rfl) (by kernel_rfl) B0 (fun W _ => ex_slice_back (v := .string s) (lv := .int .i64 6) 9 (.tmp 60) (.tmp 64) (by kernel_rfl) (by kernel_rfl) (by kernel_rfl) (str_tail s 6 (by have := HSZ.out; omega) TM HTM.out W)) ?_
  refine held_free 18 (.agg #[.bool false, .int .i64 (C : Int), .string TI, .bool false, .int .i64 (N : Int), .string TM]) rfl (by kernel_rfl) (by kernel_rfl) (by kernel_rfl) (by kernel_rfl) B0 (fun _ _ => by kernel_rfl) ?_
  refine held_skip (w' := V.drew.setRow r #[.bool false, .int .i64 (C : Int), .string TI, .bool false, .int .i64 (N : Int), .string TM]) 19 rfl (by kernel_rfl) (by kernel_rfl) (by rw [HWD.out]; exact ex_store_row 23 (.tmp 2) (.tmp 66) (by kernel_rfl) r #[.bool false, .int .i64 (C : Int), .string TI, .bool false, .int .i64 (N : Int), .string TM] (by kernel_rfl) (by kernel_rfl) 23 (adv Ad.zero) HZV.out.drew ad_size rfl (by simp [Value.oneCell'])) trivial ?_
  refine held_free 20 (.int .i64 0) rfl (by kernel_rfl) (by kernel_rfl) (by kernel_rfl) (by kernel_rfl) B0 (fun _ _ => by kernel_rfl) ?_
  refine held_end (by kernel_rfl) ?_
  go_wp2_with fail
  exact decD_end s w V.drew r (gotA false (byteAt s 1) (after2 s) 4 false) 0 (by kernel_rfl) (by kernel_rfl) (by kernel_rfl) _ HEQ.out _ HZV.out.drew HBV.out.drew HR.out HD.out
set_option maxHeartbeats 1000000 in
set_option maxRecDepth 100000 in
theorem decD_f1 (s : ByteArray) (hs : s.size ≤ 9223372036854775807) (hem : (s.toList == []) = false) (h0 : 0 < s.size) (l0 : (0 : Int) < (s.size : Int)) (F : Nat) (hF8 : F < 256) (hF0 : (s[0].toNat : Int) = (F : Int)) (e0 : ((F : Int) / 16 != 3) = false) (eE : ((F : Int) % 2 == 1) = false) (z0 : ((s.size : Int) != 14) = true) (z1 : s.size = 16) (hd : decA s = (gotA false (byteAt s 1) (after2 s) 4 true, 0)) (w : World) :
    Calls Try.prog 16 #[.string s] w fun e w' => e = .returned (decV s) ∧ Below w.heap.size w w' := by
  have HD := Lib.hid hd
  have HS := Lib.hid hs
  clear hd
  have HSZ := Lib.hid z1
  have e1 : ((s.size : Int) != 16) = false := by rw [bne_eq_false_iff_eq]; omega
  clear z1
  obtain ⟨r, hr⟩ : ∃ r, r = w.heap.size := ⟨_, rfl⟩
  obtain ⟨w0, hw0⟩ : ∃ w0, w0 = w.alloc (.cells #[.bool false, .int .i64 0, .string ⟨#[]⟩, .bool false, .int .i64 0, .string ⟨#[]⟩] 23) := ⟨_, rfl⟩
  have HZ := Lib.hid (show Blk w0 r 23 (adv Ad.zero) by rw [hw0, hr]; exact Blk.new _ _ _)
  have HB0 := Lib.hid (show Below w.heap.size w w0 by rw [hw0]; exact (Below.refl _ w).alloc (Nat.le_refl _) _)
  have HR := Lib.hid (show w.heap.size ≤ r by omega)
  have HR2 := Lib.hid hr
  have HW0 := Lib.hid hw0
  clear hr hw0
  go_enter Try.func16, Try.ntmps16
  go_upto_region 1 with fail
  rw [← HW0.out, ← HR2.out]
  go_wp2_with fail
  refine wp_loop_rounds 3 ?_
  rw [rounds_succ]
  go_wp2_with fail
  refine wp_loop_rounds 3 ?_
  rw [rounds_succ]
  go_wp2_with fail
  rw [rounds_succ]
  go_wp2_with fail
  obtain ⟨c, hc⟩ : ∃ c, c = w0.heap.size := ⟨_, rfl⟩
  obtain ⟨w1, hw1⟩ : ∃ W, W = w0.alloc (.cells #[.string s, .int .i64 6, .bool false] 74) := ⟨_, rfl⟩
  have hcur : Ref w1 c s 6 false := by rw [hw1, hc]; exact Blk.new _ _ _
  have HZ1 := HZ.out.alloc (.cells #[.string s, .int .i64 6, .bool false] 74)
  have HB1 := HB0.out.alloc HB0.out.size (.cells #[.string s, .int .i64 6, .bool false] 74)
  have HRC : r ≠ c := by have := HZ.out.lt; omega
  rw [← hw1] at HZ1 HB1
  rw [← hw1, ← hc]
  refine (Num_ref c s 6 false 2 (by decide) w1 HS.out (by have := HSZ.out; omega) hcur).mono ?_
  rintro e V ⟨rfl, mv⟩
  have HZV := Lib.hid (HZ1.grown mv.1 (by simpa using HRC))
  have HBV := Lib.hid (HB1.trans (below_of_only mv.1 (by have := HB0.out.size; omega) HB1.size))
  obtain ⟨N, hN⟩ : ∃ N, N = numO s 6 false 2 := ⟨_, rfl⟩
  rw [← hN]
  have hNn : N = num (txt (after2 s)) 4 (portOf true) := by rw [hN, numO_t (by unfold fits; have := HSZ.out; simp; omega), num_after]; rfl
  have HNN := Lib.hid hNn
  have HN16 := Lib.hid (show N ≤ 65535 by rw [hNn]; have := num_lt (txt (after2 s)) 4 2; show num _ _ 2 ≤ 65535; omega)
  obtain ⟨C, hC⟩ : ∃ C, byteAt s 1 = C := ⟨_, rfl⟩
  have HC := Lib.hid hC
  have HC8 := Lib.hid (show C ≤ 255 by have := byteAt_lt s 1; omega)
  have HL := Lib.hid (show 1 < s.size by have := HSZ.out; omega)
  obtain ⟨TI, hTI⟩ : ∃ T, s.extract 2 6 = T := ⟨_, rfl⟩
  obtain ⟨TM, hTM⟩ : ∃ T, s.extract 8 s.size = T := ⟨_, rfl⟩
  have HTI := Lib.hid hTI
  have HTM := Lib.hid hTM
  have HEQ := Lib.hid (show #[.bool false, .int .i64 (C : Int), .string TI, .bool true, .int .i64 (N : Int), .string TM] = adv (gotA false (byteAt s 1) (after2 s) 4 true) by
    show _ = (#[.bool false, .int .i64 ((byteAt s 1 : Nat) : Int), .string (txt ((after2 s).take 4)), .bool true, .int .i64 (num (txt (after2 s)) 4 (portOf true) : Int), .string (txt ((after2 s).drop (4 + portOf true)))] : Array Value)
    rw [hC, ← hTI, ← hTM, hNn, ← cut_2, ← tail_2]; rfl)
  clear hc hw1 hcur HZ1 HB1 HRC mv hN hNn hC hTI hTM
  go_upto_region 18 with fail
  have B0 : True := trivial
  refine held_start (fun _ => True) (by kernel_rfl) (n := 21) rfl ?_
  obtain ⟨W0, hW0⟩ : ∃ W0, W0 = V.drew := ⟨_, rfl⟩
  rw [← hW0]
  have HWD := Lib.hid hW0
  clear hW0
  refine held_free 0 (.bool false) rfl (by kernel_rfl) (by kernel_rfl) (by kernel_rfl) (by kernel_rfl) B0 (fun _ _ => by kernel_rfl) ?_
  refine held_free 1 (.string s) rfl (by kernel_rfl) (by kernel_rfl) (by kernel_rfl) (by kernel_rfl) B0 (fun _ _ => by kernel_rfl) ?_
  refine held_free 2 (.int .u8 (C : Int)) rfl (by kernel_rfl) (by kernel_rfl) (by kernel_rfl) (by kernel_rfl) B0 (fun _ _ => ex_byte 9 (.tmp 49) (.const (.int .i64 1)) (by kernel_rfl) s 1 C (by kernel_rfl) (by kernel_rfl) (by kernel_rfl) HL.out HC.out) ?_
  refine held_free 3 (.int .i64 (C : Int)) rfl (by kernel_rfl) (by kernel_rfl) (by kernel_rfl) (by kernel_rfl) B0 (fun W _ => ex_convert_to (v := .int .u8 (C : Int)) 5 3 (.tmp 50) (by kernel_rfl) (by kernel_rfl) (conv_u8_int C HC8.out W)) ?_
  refine held_free 4 (.string s) rfl (by kernel_rfl) (by kernel_rfl) (by kernel_rfl) (by kernel_rfl) B0 (fun _ _ => by kernel_rfl) ?_
  refine held_free 5 (.int .i64 4) rfl (by kernel_rfl) (by kernel_rfl) (by kernel_rfl) (by kernel_rfl) B0 (fun _ _ => by kernel_rfl) ?_
  refine held_free 6 (.int .i64 6) rfl (by kernel_rfl) (by kernel_rfl) (by kernel_rfl) (by kernel_rfl) B0 (fun _ _ => by kernel_rfl) ?_
  refine held_free 7 (.string TI) rfl (by kernel_rfl) (by kernel_rfl) (by kernel_rfl) (by kernel_rfl) B0 (fun W _ => ex_slice_mid (v := .string s) (lv := .int .i64 2) (hv := .int .i64 6) 9 (.tmp 52) (.const (.int .i64 2)) (.tmp 54) (by kernel_rfl) (by kernel_rfl) (by kernel_rfl) (by kernel_rfl) (str_mid s 2 6 (by decide) (by have := HSZ.out; omega) TI HTI.out W)) ?_
  refine held_free 8 (.int .i64 2) rfl (by kernel_rfl) (by kernel_rfl) (by kernel_rfl) (by kernel_rfl) B0 (fun _ _ => by kernel_rfl) ?_
  refine held_free 9 (.bool true) rfl (by kernel_rfl) (by kernel_rfl) (by kernel_rfl) (by kernel_rfl) B0 (fun _ _ => ex_inteqb .i64 3 3 (.tmp 56) (.const (.int .i64 2)) (by kernel_rfl) (2) (2) (by kernel_rfl) (by kernel_rfl) (by kernel_rfl) true ((by decide))) ?_
  refine held_free 10 (.int .u64 (N : Int)) rfl (by kernel_rfl) (by kernel_rfl) (by kernel_rfl) (by kernel_rfl) B0 (fun _ _ => by kernel_rfl) ?_
  refine held_free 11 (.int .i64 (N : Int)) rfl (by kernel_rfl) (by kernel_rfl) (by kernel_rfl) (by kernel_rfl) B0 (fun W _ => ex_convert_to (v := .int .u64 (N : Int)) 57 3 (.tmp 58) (by kernel_rfl) (by kernel_rfl) (conv_u64_int N HN16.out W)) ?_
  refine held_free 12 (.string s) rfl (by kernel_rfl) (by kernel_rfl) (by kernel_rfl) (by kernel_rfl) B0 (fun _ _ => by kernel_rfl) ?_
  refine held_free 13 (.int .i64 4) rfl (by kernel_rfl) (by kernel_rfl) (by kernel_rfl) (by kernel_rfl) B0 (fun _ _ => by kernel_rfl) ?_
  refine held_free 14 (.int .i64 6) rfl (by kernel_rfl) (by kernel_rfl) (by kernel_rfl) (by kernel_rfl) B0 (fun _ _ => by kernel_rfl) ?_
  refine held_free 15 (.int .i64 2) rfl (by kernel_rfl) (by kernel_rfl) (by kernel_rfl) (by kernel_rfl) B0 (fun _ _ => by kernel_rfl) ?_
  refine held_free 16 (.int .i64 8) rfl (by kernel_rfl) (by kernel_rfl) (by kernel_rfl) (by kernel_rfl) B0 (fun _ _ => by kernel_rfl) ?_
  refine held_free 17 (.string TM) rfl (by kernel_rfl) (by kernel_rfl) (by kernel_rfl) (by kernel_rfl) B0 (fun W _ => ex_slice_back (v := .string s) (lv := .int .i64 8) 9 (.tmp 60) (.tmp 64) (by kernel_rfl) (by kernel_rfl) (by kernel_rfl) (str_tail s 8 (by have := HSZ.out; omega) TM HTM.out W)) ?_
  refine held_free 18 (.agg #[.bool false, .int .i64 (C : Int), .string TI, .bool true, .int .i64 (N : Int), .string TM]) rfl (by kernel_rfl) (by kernel_rfl) (by kernel_rfl) (by kernel_rfl) B0 (fun _ _ => by kernel_rfl) ?_
  refine held_skip (w' := V.drew.setRow r #[.bool false, .int .i64 (C : Int), .string TI, .bool true, .int .i64 (N : Int), .string TM]) 19 rfl (by kernel_rfl) (by kernel_rfl) (by rw [HWD.out]; exact ex_store_row 23 (.tmp 2) (.tmp 66) (by kernel_rfl) r #[.bool false, .int .i64 (C : Int), .string TI, .bool true, .int .i64 (N : Int), .string TM] (by kernel_rfl) (by kernel_rfl) 23 (adv Ad.zero) HZV.out.drew ad_size rfl (by simp [Value.oneCell'])) trivial ?_
  refine held_free 20 (.int .i64 0) rfl (by kernel_rfl) (by kernel_rfl) (by kernel_rfl) (by kernel_rfl) B0 (fun _ _ => by kernel_rfl) ?_
  refine held_end (by kernel_rfl) ?_
  go_wp2_with fail
  exact decD_end s w V.drew r (gotA false (byteAt s 1) (after2 s) 4 true) 0 (by kernel_rfl) (by kernel_rfl) (by kernel_rfl) _ HEQ.out _ HZV.out.drew HBV.out.drew HR.out HD.out
set_option maxHeartbeats 1000000 in
set_option maxRecDepth 100000 in
theorem decD_f2 (s : ByteArray) (hs : s.size ≤ 9223372036854775807) (hem : (s.toList == []) = false) (h0 : 0 < s.size) (l0 : (0 : Int) < (s.size : Int)) (F : Nat) (hF8 : F < 256) (hF0 : (s[0].toNat : Int) = (F : Int)) (e0 : ((F : Int) / 16 != 3) = false) (eE : ((F : Int) % 2 == 1) = false) (z0 : ((s.size : Int) != 14) = true) (z1 : ((s.size : Int) != 16) = true) (z2 : s.size = 26) (hd : decA s = (gotA false (byteAt s 1) (after2 s) 16 false, 0)) (w : World) :
    Calls Try.prog 16 #[.string s] w fun e w' => e = .returned (decV s) ∧ Below w.heap.size w w' := by
  have HD := Lib.hid hd
  have HS := Lib.hid hs
  clear hd
  have HSZ := Lib.hid z2
  have e2 : ((s.size : Int) != 26) = false := by rw [bne_eq_false_iff_eq]; omega
  clear z2
  obtain ⟨r, hr⟩ : ∃ r, r = w.heap.size := ⟨_, rfl⟩
  obtain ⟨w0, hw0⟩ : ∃ w0, w0 = w.alloc (.cells #[.bool false, .int .i64 0, .string ⟨#[]⟩, .bool false, .int .i64 0, .string ⟨#[]⟩] 23) := ⟨_, rfl⟩
  have HZ := Lib.hid (show Blk w0 r 23 (adv Ad.zero) by rw [hw0, hr]; exact Blk.new _ _ _)
  have HB0 := Lib.hid (show Below w.heap.size w w0 by rw [hw0]; exact (Below.refl _ w).alloc (Nat.le_refl _) _)
  have HR := Lib.hid (show w.heap.size ≤ r by omega)
  have HR2 := Lib.hid hr
  have HW0 := Lib.hid hw0
  clear hr hw0
  go_enter Try.func16, Try.ntmps16
  go_upto_region 1 with fail
  rw [← HW0.out, ← HR2.out]
  go_wp2_with fail
  refine wp_loop_rounds 3 ?_
  rw [rounds_succ]
  go_wp2_with fail
  refine wp_loop_rounds 3 ?_
  rw [rounds_succ]
  go_wp2_with fail
  rw [rounds_succ]
  go_wp2_with fail
  rw [rounds_succ]
  go_wp2_with fail
  rw [rounds_succ]
  go_wp2_with fail
  refine wp_loop_rounds 3 ?_
  rw [rounds_succ]
  go_wp2_with fail
  obtain ⟨c, hc⟩ : ∃ c, c = w0.heap.size := ⟨_, rfl⟩
  obtain ⟨w1, hw1⟩ : ∃ W, W = w0.alloc (.cells #[.string s, .int .i64 18, .bool false] 74) := ⟨_, rfl⟩
  have hcur : Ref w1 c s 18 false := by rw [hw1, hc]; exact Blk.new _ _ _
  have HZ1 := HZ.out.alloc (.cells #[.string s, .int .i64 18, .bool false] 74)
  have HB1 := HB0.out.alloc HB0.out.size (.cells #[.string s, .int .i64 18, .bool false] 74)
  have HRC : r ≠ c := by have := HZ.out.lt; omega
  rw [← hw1] at HZ1 HB1
  rw [← hw1, ← hc]
  refine (Num_ref c s 18 false 0 (by decide) w1 HS.out (by have := HSZ.out; omega) hcur).mono ?_
  rintro e V ⟨rfl, mv⟩
  have HZV := Lib.hid (HZ1.grown mv.1 (by simpa using HRC))
  have HBV := Lib.hid (HB1.trans (below_of_only mv.1 (by have := HB0.out.size; omega) HB1.size))
  obtain ⟨N, hN⟩ : ∃ N, N = numO s 18 false 0 := ⟨_, rfl⟩
  rw [← hN]
  have hNn : N = num (txt (after2 s)) 16 (portOf false) := by rw [hN, numO_t (by unfold fits; have := HSZ.out; simp; omega), num_after]; rfl
  have HNN := Lib.hid hNn
  have HN16 := Lib.hid (show N ≤ 65535 by rw [hNn]; exact Nat.zero_le _)
  obtain ⟨C, hC⟩ : ∃ C, byteAt s 1 = C := ⟨_, rfl⟩
  have HC := Lib.hid hC
  have HC8 := Lib.hid (show C ≤ 255 by have := byteAt_lt s 1; omega)
  have HL := Lib.hid (show 1 < s.size by have := HSZ.out; omega)
  obtain ⟨TI, hTI⟩ : ∃ T, s.extract 2 18 = T := ⟨_, rfl⟩
  obtain ⟨TM, hTM⟩ : ∃ T, s.extract 18 s.size = T := ⟨_, rfl⟩
  have HTI := Lib.hid hTI
  have HTM := Lib.hid hTM
  have HEQ := Lib.hid (show #[.bool false, .int .i64 (C : Int), .string TI, .bool false, .int .i64 (N : Int), .string TM] = adv (gotA false (byteAt s 1) (after2 s) 16 false) by
    show _ = (#[.bool false, .int .i64 ((byteAt s 1 : Nat) : Int), .string (txt ((after2 s).take 16)), .bool false, .int .i64 (num (txt (after2 s)) 16 (portOf false) : Int), .string (txt ((after2 s).drop (16 + portOf false)))] : Array Value)
    rw [hC, ← hTI, ← hTM, hNn, ← cut_2, ← tail_2]; rfl)
  clear hc hw1 hcur HZ1 HB1 HRC mv hN hNn hC hTI hTM
  go_upto_region 18 with fail
  have B0 : True := trivial
  refine held_start (fun _ => True) (by kernel_rfl) (n := 21) rfl ?_
  obtain ⟨W0, hW0⟩ : ∃ W0, W0 = V.drew := ⟨_, rfl⟩
  rw [← hW0]
  have HWD := Lib.hid hW0
  clear hW0
  refine held_free 0 (.bool false) rfl (by kernel_rfl) (by kernel_rfl) (by kernel_rfl) (by kernel_rfl) B0 (fun _ _ => by kernel_rfl) ?_
  refine held_free 1 (.string s) rfl (by kernel_rfl) (by kernel_rfl) (by kernel_rfl) (by kernel_rfl) B0 (fun _ _ => by kernel_rfl) ?_
  refine held_free 2 (.int .u8 (C : Int)) rfl (by kernel_rfl) (by kernel_rfl) (by kernel_rfl) (by kernel_rfl) B0 (fun _ _ => ex_byte 9 (.tmp 49) (.const (.int .i64 1)) (by kernel_rfl) s 1 C (by kernel_rfl) (by kernel_rfl) (by kernel_rfl) HL.out HC.out) ?_
  refine held_free 3 (.int .i64 (C : Int)) rfl (by kernel_rfl) (by kernel_rfl) (by kernel_rfl) (by kernel_rfl) B0 (fun W _ => ex_convert_to (v := .int .u8 (C : Int)) 5 3 (.tmp 50) (by kernel_rfl) (by kernel_rfl) (conv_u8_int C HC8.out W)) ?_
  refine held_free 4 (.string s) rfl (by kernel_rfl) (by kernel_rfl) (by kernel_rfl) (by kernel_rfl) B0 (fun _ _ => by kernel_rfl) ?_
  refine held_free 5 (.int .i64 16) rfl (by kernel_rfl) (by kernel_rfl) (by kernel_rfl) (by kernel_rfl) B0 (fun _ _ => by kernel_rfl) ?_
  refine held_free 6 (.int .i64 18) rfl (by kernel_rfl) (by kernel_rfl) (by kernel_rfl) (by kernel_rfl) B0 (fun _ _ => by kernel_rfl) ?_
  refine held_free 7 (.string TI) rfl (by kernel_rfl) (by kernel_rfl) (by kernel_rfl) (by kernel_rfl) B0 (fun W _ => ex_slice_mid (v := .string s) (lv := .int .i64 2) (hv := .int .i64 18) 9 (.tmp 52) (.const (.int .i64 2)) (.tmp 54) (by kernel_rfl) (by kernel_rfl) (by kernel_rfl) (by kernel_rfl) (str_mid s 2 18 (by decide) (by have := HSZ.out; omega) TI HTI.out W)) ?_
  refine held_free 8 (.int .i64 0) rfl (by kernel_rfl) (by kernel_rfl) (by kernel_rfl) (by kernel_rfl) B0 (fun _ _ => by kernel_rfl) ?_
  refine held_free 9 (.bool false) rfl (by kernel_rfl) (by kernel_rfl) (by kernel_rfl) (by kernel_rfl) B0 (fun _ _ => ex_inteqb .i64 3 3 (.tmp 56) (.const (.int .i64 2)) (by kernel_rfl) (0) (2) (by kernel_rfl) (by kernel_rfl) (by kernel_rfl) false ((by decide))) ?_
  refine held_free 10 (.int .u64 (N : Int)) rfl (by kernel_rfl) (by kernel_rfl) (by kernel_rfl) (by kernel_rfl) B0 (fun _ _ => by kernel_rfl) ?_
  refine held_free 11 (.int .i64 (N : Int)) rfl (by kernel_rfl) (by kernel_rfl) (by kernel_rfl) (by kernel_rfl) B0 (fun W _ => ex_convert_to (v := .int .u64 (N : Int)) 57 3 (.tmp 58) (by kernel_rfl) (by kernel_rfl) (conv_u64_int N HN16.out W)) ?_
  refine held_free 12 (.string s) rfl (by kernel_rfl) (by kernel_rfl) (by kernel_rfl) (by kernel_rfl) B0 (fun _ _ => by kernel_rfl) ?_
  refine held_free 13 (.int .i64 16) rfl (by kernel_rfl) (by kernel_rfl) (by kernel_rfl) (by kernel_rfl) B0 (fun _ _ => by kernel_rfl) ?_
  refine held_free 14 (.int .i64 18) rfl (by kernel_rfl) (by kernel_rfl) (by kernel_rfl) (by kernel_rfl) B0 (fun _ _ => by kernel_rfl) ?_
  refine held_free 15 (.int .i64 0) rfl (by kernel_rfl) (by kernel_rfl) (by kernel_rfl) (by kernel_rfl) B0 (fun _ _ => by kernel_rfl) ?_
  refine held_free 16 (.int .i64 18) rfl (by kernel_rfl) (by kernel_rfl) (by kernel_rfl) (by kernel_rfl) B0 (fun _ _ => by kernel_rfl) ?_
  refine held_free 17 (.string TM) rfl (by kernel_rfl) (by kernel_rfl) (by kernel_rfl) (by kernel_rfl) B0 (fun W _ => ex_slice_back (v := .string s) (lv := .int .i64 18) 9 (.tmp 60) (.tmp 64) (by kernel_rfl) (by kernel_rfl) (by kernel_rfl) (str_tail s 18 (by have := HSZ.out; omega) TM HTM.out W)) ?_
  refine held_free 18 (.agg #[.bool false, .int .i64 (C : Int), .string TI, .bool false, .int .i64 (N : Int), .string TM]) rfl (by kernel_rfl) (by kernel_rfl) (by kernel_rfl) (by kernel_rfl) B0 (fun _ _ => by kernel_rfl) ?_
  refine held_skip (w' := V.drew.setRow r #[.bool false, .int .i64 (C : Int), .string TI, .bool false, .int .i64 (N : Int), .string TM]) 19 rfl (by kernel_rfl) (by kernel_rfl) (by rw [HWD.out]; exact ex_store_row 23 (.tmp 2) (.tmp 66) (by kernel_rfl) r #[.bool false, .int .i64 (C : Int), .string TI, .bool false, .int .i64 (N : Int), .string TM] (by kernel_rfl) (by kernel_rfl) 23 (adv Ad.zero) HZV.out.drew ad_size rfl (by simp [Value.oneCell'])) trivial ?_
  refine held_free 20 (.int .i64 0) rfl (by kernel_rfl) (by kernel_rfl) (by kernel_rfl) (by kernel_rfl) B0 (fun _ _ => by kernel_rfl) ?_
  refine held_end (by kernel_rfl) ?_
  go_wp2_with fail
  exact decD_end s w V.drew r (gotA false (byteAt s 1) (after2 s) 16 false) 0 (by kernel_rfl) (by kernel_rfl) (by kernel_rfl) _ HEQ.out _ HZV.out.drew HBV.out.drew HR.out HD.out
set_option maxHeartbeats 1000000 in
set_option maxRecDepth 100000 in
theorem decD_f3 (s : ByteArray) (hs : s.size ≤ 9223372036854775807) (hem : (s.toList == []) = false) (h0 : 0 < s.size) (l0 : (0 : Int) < (s.size : Int)) (F : Nat) (hF8 : F < 256) (hF0 : (s[0].toNat : Int) = (F : Int)) (e0 : ((F : Int) / 16 != 3) = false) (eE : ((F : Int) % 2 == 1) = false) (z0 : ((s.size : Int) != 14) = true) (z1 : ((s.size : Int) != 16) = true) (z2 : ((s.size : Int) != 26) = true) (z3 : s.size = 28) (hd : decA s = (gotA false (byteAt s 1) (after2 s) 16 true, 0)) (w : World) :
    Calls Try.prog 16 #[.string s] w fun e w' => e = .returned (decV s) ∧ Below w.heap.size w w' := by
  have HD := Lib.hid hd
  have HS := Lib.hid hs
  clear hd
  have HSZ := Lib.hid z3
  have e3 : ((s.size : Int) != 28) = false := by rw [bne_eq_false_iff_eq]; omega
  clear z3
  obtain ⟨r, hr⟩ : ∃ r, r = w.heap.size := ⟨_, rfl⟩
  obtain ⟨w0, hw0⟩ : ∃ w0, w0 = w.alloc (.cells #[.bool false, .int .i64 0, .string ⟨#[]⟩, .bool false, .int .i64 0, .string ⟨#[]⟩] 23) := ⟨_, rfl⟩
  have HZ := Lib.hid (show Blk w0 r 23 (adv Ad.zero) by rw [hw0, hr]; exact Blk.new _ _ _)
  have HB0 := Lib.hid (show Below w.heap.size w w0 by rw [hw0]; exact (Below.refl _ w).alloc (Nat.le_refl _) _)
  have HR := Lib.hid (show w.heap.size ≤ r by omega)
  have HR2 := Lib.hid hr
  have HW0 := Lib.hid hw0
  clear hr hw0
  go_enter Try.func16, Try.ntmps16
  go_upto_region 1 with fail
  rw [← HW0.out, ← HR2.out]
  go_wp2_with fail
  refine wp_loop_rounds 3 ?_
  rw [rounds_succ]
  go_wp2_with fail
  refine wp_loop_rounds 3 ?_
  rw [rounds_succ]
  go_wp2_with fail
  rw [rounds_succ]
  go_wp2_with fail
  rw [rounds_succ]
  go_wp2_with fail
  rw [rounds_succ]
  go_wp2_with fail
  refine wp_loop_rounds 3 ?_
  rw [rounds_succ]
  go_wp2_with fail
  rw [rounds_succ]
  go_wp2_with fail
  obtain ⟨c, hc⟩ : ∃ c, c = w0.heap.size := ⟨_, rfl⟩
  obtain ⟨w1, hw1⟩ : ∃ W, W = w0.alloc (.cells #[.string s, .int .i64 18, .bool false] 74) := ⟨_, rfl⟩
  have hcur : Ref w1 c s 18 false := by rw [hw1, hc]; exact Blk.new _ _ _
  have HZ1 := HZ.out.alloc (.cells #[.string s, .int .i64 18, .bool false] 74)
  have HB1 := HB0.out.alloc HB0.out.size (.cells #[.string s, .int .i64 18, .bool false] 74)
  have HRC : r ≠ c := by have := HZ.out.lt; omega
  rw [← hw1] at HZ1 HB1
  rw [← hw1, ← hc]
  refine (Num_ref c s 18 false 2 (by decide) w1 HS.out (by have := HSZ.out; omega) hcur).mono ?_
  rintro e V ⟨rfl, mv⟩
  have HZV := Lib.hid (HZ1.grown mv.1 (by simpa using HRC))
  have HBV := Lib.hid (HB1.trans (below_of_only mv.1 (by have := HB0.out.size; omega) HB1.size))
  obtain ⟨N, hN⟩ : ∃ N, N = numO s 18 false 2 := ⟨_, rfl⟩
  rw [← hN]
  have hNn : N = num (txt (after2 s)) 16 (portOf true) := by rw [hN, numO_t (by unfold fits; have := HSZ.out; simp; omega), num_after]; rfl
  have HNN := Lib.hid hNn
  have HN16 := Lib.hid (show N ≤ 65535 by rw [hNn]; have := num_lt (txt (after2 s)) 16 2; show num _ _ 2 ≤ 65535; omega)
  obtain ⟨C, hC⟩ : ∃ C, byteAt s 1 = C := ⟨_, rfl⟩
  have HC := Lib.hid hC
  have HC8 := Lib.hid (show C ≤ 255 by have := byteAt_lt s 1; omega)
  have HL := Lib.hid (show 1 < s.size by have := HSZ.out; omega)
  obtain ⟨TI, hTI⟩ : ∃ T, s.extract 2 18 = T := ⟨_, rfl⟩
  obtain ⟨TM, hTM⟩ : ∃ T, s.extract 20 s.size = T := ⟨_, rfl⟩
  have HTI := Lib.hid hTI
  have HTM := Lib.hid hTM
  have HEQ := Lib.hid (show #[.bool false, .int .i64 (C : Int), .string TI, .bool true, .int .i64 (N : Int), .string TM] = adv (gotA false (byteAt s 1) (after2 s) 16 true) by
    show _ = (#[.bool false, .int .i64 ((byteAt s 1 : Nat) : Int), .string (txt ((after2 s).take 16)), .bool true, .int .i64 (num (txt (after2 s)) 16 (portOf true) : Int), .string (txt ((after2 s).drop (16 + portOf true)))] : Array Value)
    rw [hC, ← hTI, ← hTM, hNn, ← cut_2, ← tail_2]; rfl)
  clear hc hw1 hcur HZ1 HB1 HRC mv hN hNn hC hTI hTM
  go_upto_region 18 with fail
  have B0 : True := trivial
  refine held_start (fun _ => True) (by kernel_rfl) (n := 21) rfl ?_
  obtain ⟨W0, hW0⟩ : ∃ W0, W0 = V.drew := ⟨_, rfl⟩
  rw [← hW0]
  have HWD := Lib.hid hW0
  clear hW0
  refine held_free 0 (.bool false) rfl (by kernel_rfl) (by kernel_rfl) (by kernel_rfl) (by kernel_rfl) B0 (fun _ _ => by kernel_rfl) ?_
  refine held_free 1 (.string s) rfl (by kernel_rfl) (by kernel_rfl) (by kernel_rfl) (by kernel_rfl) B0 (fun _ _ => by kernel_rfl) ?_
  refine held_free 2 (.int .u8 (C : Int)) rfl (by kernel_rfl) (by kernel_rfl) (by kernel_rfl) (by kernel_rfl) B0 (fun _ _ => ex_byte 9 (.tmp 49) (.const (.int .i64 1)) (by kernel_rfl) s 1 C (by kernel_rfl) (by kernel_rfl) (by kernel_rfl) HL.out HC.out) ?_
  refine held_free 3 (.int .i64 (C : Int)) rfl (by kernel_rfl) (by kernel_rfl) (by kernel_rfl) (by kernel_rfl) B0 (fun W _ => ex_convert_to (v := .int .u8 (C : Int)) 5 3 (.tmp 50) (by kernel_rfl) (by kernel_rfl) (conv_u8_int C HC8.out W)) ?_
  refine held_free 4 (.string s) rfl (by kernel_rfl) (by kernel_rfl) (by kernel_rfl) (by kernel_rfl) B0 (fun _ _ => by kernel_rfl) ?_
  refine held_free 5 (.int .i64 16) rfl (by kernel_rfl) (by kernel_rfl) (by kernel_rfl) (by kernel_rfl) B0 (fun _ _ => by kernel_rfl) ?_
  refine held_free 6 (.int .i64 18) rfl (by kernel_rfl) (by kernel_rfl) (by kernel_rfl) (by kernel_rfl) B0 (fun _ _ => by kernel_rfl) ?_
  refine held_free 7 (.string TI) rfl (by kernel_rfl) (by kernel_rfl) (by kernel_rfl) (by kernel_rfl) B0 (fun W _ => ex_slice_mid (v := .string s) (lv := .int .i64 2) (hv := .int .i64 18) 9 (.tmp 52) (.const (.int .i64 2)) (.tmp 54) (by kernel_rfl) (by kernel_rfl) (by kernel_rfl) (by kernel_rfl) (str_mid s 2 18 (by decide) (by have := HSZ.out; omega) TI HTI.out W)) ?_
  refine held_free 8 (.int .i64 2) rfl (by kernel_rfl) (by kernel_rfl) (by kernel_rfl) (by kernel_rfl) B0 (fun _ _ => by kernel_rfl) ?_
  refine held_free 9 (.bool true) rfl (by kernel_rfl) (by kernel_rfl) (by kernel_rfl) (by kernel_rfl) B0 (fun _ _ => ex_inteqb .i64 3 3 (.tmp 56) (.const (.int .i64 2)) (by kernel_rfl) (2) (2) (by kernel_rfl) (by kernel_rfl) (by kernel_rfl) true ((by decide))) ?_
  refine held_free 10 (.int .u64 (N : Int)) rfl (by kernel_rfl) (by kernel_rfl) (by kernel_rfl) (by kernel_rfl) B0 (fun _ _ => by kernel_rfl) ?_
  refine held_free 11 (.int .i64 (N : Int)) rfl (by kernel_rfl) (by kernel_rfl) (by kernel_rfl) (by kernel_rfl) B0 (fun W _ => ex_convert_to (v := .int .u64 (N : Int)) 57 3 (.tmp 58) (by kernel_rfl) (by kernel_rfl) (conv_u64_int N HN16.out W)) ?_
  refine held_free 12 (.string s) rfl (by kernel_rfl) (by kernel_rfl) (by kernel_rfl) (by kernel_rfl) B0 (fun _ _ => by kernel_rfl) ?_
  refine held_free 13 (.int .i64 16) rfl (by kernel_rfl) (by kernel_rfl) (by kernel_rfl) (by kernel_rfl) B0 (fun _ _ => by kernel_rfl) ?_
  refine held_free 14 (.int .i64 18) rfl (by kernel_rfl) (by kernel_rfl) (by kernel_rfl) (by kernel_rfl) B0 (fun _ _ => by kernel_rfl) ?_
  refine held_free 15 (.int .i64 2) rfl (by kernel_rfl) (by kernel_rfl) (by kernel_rfl) (by kernel_rfl) B0 (fun _ _ => by kernel_rfl) ?_
  refine held_free 16 (.int .i64 20) rfl (by kernel_rfl) (by kernel_rfl) (by kernel_rfl) (by kernel_rfl) B0 (fun _ _ => by kernel_rfl) ?_
  refine held_free 17 (.string TM) rfl (by kernel_rfl) (by kernel_rfl) (by kernel_rfl) (by kernel_rfl) B0 (fun W _ => ex_slice_back (v := .string s) (lv := .int .i64 20) 9 (.tmp 60) (.tmp 64) (by kernel_rfl) (by kernel_rfl) (by kernel_rfl) (str_tail s 20 (by have := HSZ.out; omega) TM HTM.out W)) ?_
  refine held_free 18 (.agg #[.bool false, .int .i64 (C : Int), .string TI, .bool true, .int .i64 (N : Int), .string TM]) rfl (by kernel_rfl) (by kernel_rfl) (by kernel_rfl) (by kernel_rfl) B0 (fun _ _ => by kernel_rfl) ?_
  refine held_skip (w' := V.drew.setRow r #[.bool false, .int .i64 (C : Int), .string TI, .bool true, .int .i64 (N : Int), .string TM]) 19 rfl (by kernel_rfl) (by kernel_rfl) (by rw [HWD.out]; exact ex_store_row 23 (.tmp 2) (.tmp 66) (by kernel_rfl) r #[.bool false, .int .i64 (C : Int), .string TI, .bool true, .int .i64 (N : Int), .string TM] (by kernel_rfl) (by kernel_rfl) 23 (adv Ad.zero) HZV.out.drew ad_size rfl (by simp [Value.oneCell'])) trivial ?_
  refine held_free 20 (.int .i64 0) rfl (by kernel_rfl) (by kernel_rfl) (by kernel_rfl) (by kernel_rfl) B0 (fun _ _ => by kernel_rfl) ?_
  refine held_end (by kernel_rfl) ?_
  go_wp2_with fail
  exact decD_end s w V.drew r (gotA false (byteAt s 1) (after2 s) 16 true) 0 (by kernel_rfl) (by kernel_rfl) (by kernel_rfl) _ HEQ.out _ HZV.out.drew HBV.out.drew HR.out HD.out
set_option maxHeartbeats 1000000 in
set_option maxRecDepth 100000 in
theorem decD_fx (s : ByteArray) (hs : s.size ≤ 9223372036854775807) (hem : (s.toList == []) = false) (h0 : 0 < s.size) (l0 : (0 : Int) < (s.size : Int)) (F : Nat) (hF8 : F < 256) (hF0 : (s[0].toNat : Int) = (F : Int)) (e0 : ((F : Int) / 16 != 3) = false) (eE : ((F : Int) % 2 == 1) = false) (z0 : ((s.size : Int) != 14) = true) (z1 : ((s.size : Int) != 16) = true) (z2 : ((s.size : Int) != 26) = true) (z3 : ((s.size : Int) != 28) = true) (hd : decA s = (.zero, 5)) (w : World) :
    Calls Try.prog 16 #[.string s] w fun e w' => e = .returned (decV s) ∧ Below w.heap.size w w' := by
  have HD := Lib.hid hd
  have HS := Lib.hid hs
  clear hd
  obtain ⟨r, hr⟩ : ∃ r, r = w.heap.size := ⟨_, rfl⟩
  obtain ⟨w0, hw0⟩ : ∃ w0, w0 = w.alloc (.cells #[.bool false, .int .i64 0, .string ⟨#[]⟩, .bool false, .int .i64 0, .string ⟨#[]⟩] 23) := ⟨_, rfl⟩
  have HZ := Lib.hid (show Blk w0 r 23 (adv Ad.zero) by rw [hw0, hr]; exact Blk.new _ _ _)
  have HB0 := Lib.hid (show Below w.heap.size w w0 by rw [hw0]; exact (Below.refl _ w).alloc (Nat.le_refl _) _)
  have HR := Lib.hid (show w.heap.size ≤ r by omega)
  have HR2 := Lib.hid hr
  have HW0 := Lib.hid hw0
  clear hr hw0
  go_enter Try.func16, Try.ntmps16
  go_upto_region 1 with fail
  rw [← HW0.out, ← HR2.out]
  go_wp2_with fail
  refine wp_loop_rounds 3 ?_
  rw [rounds_succ]
  go_wp2_with fail
  refine wp_loop_rounds 3 ?_
  rw [rounds_succ]
  go_wp2_with fail
  rw [rounds_succ]
  go_wp2_with fail
  rw [rounds_succ]
  go_wp2_with fail
  rw [rounds_succ]
  go_wp2_with fail
  refine wp_loop_rounds 3 ?_
  rw [rounds_succ]
  go_wp2_with fail
  rw [rounds_succ]
  go_wp2_with fail
  rw [rounds_succ]
  go_wp2_with fail
  rw [rounds_succ]
  go_wp2_with (refine wpList_store_row rfl 23 _ _ rfl r (adv Ad.zero) rfl rfl 23 (adv Ad.zero) ?_ ad_size rfl (ad_one _) ?_; exact HZ.out)
  exact decD_end s w w0 r Ad.zero 5 rfl rfl rfl _ rfl _ HZ.out HB0.out HR.out HD.out
set_option maxHeartbeats 1000000 in
set_option maxRecDepth 100000 in
theorem decD_t0 (s : ByteArray) (hs : s.size ≤ 9223372036854775807) (hem : (s.toList == []) = false) (h0 : 0 < s.size) (l0 : (0 : Int) < (s.size : Int)) (F : Nat) (hF8 : F < 256) (hF0 : (s[0].toNat : Int) = (F : Int)) (e0 : ((F : Int) / 16 != 3) = false) (eE : ((F : Int) % 2 == 1) = true) (z0 : s.size = 6) (hd : decA s = (gotA true (byteAt s 1) (after2 s) 4 false, 0)) (w : World) :
    Calls Try.prog 16 #[.string s] w fun e w' => e = .returned (decV s) ∧ Below w.heap.size w w' := by
  have HD := Lib.hid hd
  have HS := Lib.hid hs
  clear hd
  have HSZ := Lib.hid z0
  have e0 : ((s.size : Int) != 6) = false := by rw [bne_eq_false_iff_eq]; omega
  clear z0
  obtain ⟨r, hr⟩ : ∃ r, r = w.heap.size := ⟨_, rfl⟩
  obtain ⟨w0, hw0⟩ : ∃ w0, w0 = w.alloc (.cells #[.bool false, .int .i64 0, .string ⟨#[]⟩, .bool false, .int .i64 0, .string ⟨#[]⟩] 23) := ⟨_, rfl⟩
  have HZ := Lib.hid (show Blk w0 r 23 (adv Ad.zero) by rw [hw0, hr]; exact Blk.new _ _ _)
  have HB0 := Lib.hid (show Below w.heap.size w w0 by rw [hw0]; exact (Below.refl _ w).alloc (Nat.le_refl _) _)
  have HR := Lib.hid (show w.heap.size ≤ r by omega)
  have HR2 := Lib.hid hr
  have HW0 := Lib.hid hw0
  clear hr hw0
  go_enter Try.func16, Try.ntmps16
  go_upto_region 1 with fail
  rw [← HW0.out, ← HR2.out]
  go_wp2_with fail
  refine wp_loop_rounds 3 ?_
  rw [rounds_succ]
  go_wp2_with fail
  refine wp_loop_rounds 3 ?_
  rw [rounds_succ]
  go_wp2_with fail
  obtain ⟨c, hc⟩ : ∃ c, c = w0.heap.size := ⟨_, rfl⟩
  obtain ⟨w1, hw1⟩ : ∃ W, W = w0.alloc (.cells #[.string s, .int .i64 6, .bool false] 74) := ⟨_, rfl⟩
  have hcur : Ref w1 c s 6 false := by rw [hw1, hc]; exact Blk.new _ _ _
  have HZ1 := HZ.out.alloc (.cells #[.string s, .int .i64 6, .bool false] 74)
  have HB1 := HB0.out.alloc HB0.out.size (.cells #[.string s, .int .i64 6, .bool false] 74)
  have HRC : r ≠ c := by have := HZ.out.lt; omega
  rw [← hw1] at HZ1 HB1
  rw [← hw1, ← hc]
  refine (Num_ref c s 6 false 0 (by decide) w1 HS.out (by have := HSZ.out; omega) hcur).mono ?_
  rintro e V ⟨rfl, mv⟩
  have HZV := Lib.hid (HZ1.grown mv.1 (by simpa using HRC))
  have HBV := Lib.hid (HB1.trans (below_of_only mv.1 (by have := HB0.out.size; omega) HB1.size))
  obtain ⟨N, hN⟩ : ∃ N, N = numO s 6 false 0 := ⟨_, rfl⟩
  rw [← hN]
  have hNn : N = num (txt (after2 s)) 4 (portOf false) := by rw [hN, numO_t (by unfold fits; have := HSZ.out; simp; omega), num_after]; rfl
  have HNN := Lib.hid hNn
  have HN16 := Lib.hid (show N ≤ 65535 by rw [hNn]; exact Nat.zero_le _)
  obtain ⟨C, hC⟩ : ∃ C, byteAt s 1 = C := ⟨_, rfl⟩
  have HC := Lib.hid hC
  have HC8 := Lib.hid (show C ≤ 255 by have := byteAt_lt s 1; omega)
  have HL := Lib.hid (show 1 < s.size by have := HSZ.out; omega)
  obtain ⟨TI, hTI⟩ : ∃ T, s.extract 2 6 = T := ⟨_, rfl⟩
  obtain ⟨TM, hTM⟩ : ∃ T, s.extract 6 s.size = T := ⟨_, rfl⟩
  have HTI := Lib.hid hTI
  have HTM := Lib.hid hTM
  have HEQ := Lib.hid (show #[.bool true, .int .i64 (C : Int), .string TI, .bool false, .int .i64 (N : Int), .string TM] = adv (gotA true (byteAt s 1) (after2 s) 4 false) by
    show _ = (#[.bool true, .int .i64 ((byteAt s 1 : Nat) : Int), .string (txt ((after2 s).take 4)), .bool false, .int .i64 (num (txt (after2 s)) 4 (portOf false) : Int), .string (txt ((after2 s).drop (4 + portOf false)))] : Array Value)
    rw [hC, ← hTI, ← hTM, hNn, ← cut_2, ← tail_2]; rfl)
  clear hc hw1 hcur HZ1 HB1 HRC mv hN hNn hC hTI hTM
  go_upto_region 18 with fail
  have B0 : True := trivial
  refine held_start (fun _ => True) (by kernel_rfl) (n := 21) rfl ?_
  obtain ⟨W0, hW0⟩ : ∃ W0, W0 = V.drew := ⟨_, rfl⟩
  rw [← hW0]
  have HWD := Lib.hid hW0
  clear hW0
  refine held_free 0 (.bool true) rfl (by kernel_rfl) (by kernel_rfl) (by kernel_rfl) (by kernel_rfl) B0 (fun _ _ => by kernel_rfl) ?_
  refine held_free 1 (.string s) rfl (by kernel_rfl) (by kernel_rfl) (by kernel_rfl) (by kernel_rfl) B0 (fun _ _ => by kernel_rfl) ?_
  refine held_free 2 (.int .u8 (C : Int)) rfl (by kernel_rfl) (by kernel_rfl) (by kernel_rfl) (by kernel_rfl) B0 (fun _ _ => ex_byte 9 (.tmp 49) (.const (.int .i64 1)) (by kernel_rfl) s 1 C (by kernel_rfl) (by kernel_rfl) (by kernel_rfl) HL.out HC.out) ?_
  refine held_free 3 (.int .i64 (C : Int)) rfl (by kernel_rfl) (by kernel_rfl) (by kernel_rfl) (by kernel_rfl) B0 (fun W _ => ex_convert_to (v := .int .u8 (C : Int)) 5 3 (.tmp 50) (by kernel_rfl) (by kernel_rfl) (conv_u8_int C HC8.out W)) ?_
  refine held_free 4 (.string s) rfl (by kernel_rfl) (by kernel_rfl) (by kernel_rfl) (by kernel_rfl) B0 (fun _ _ => by kernel_rfl) ?_
  refine held_free 5 (.int .i64 4) rfl (by kernel_rfl) (by kernel_rfl) (by kernel_rfl) (by kernel_rfl) B0 (fun _ _ => by kernel_rfl) ?_
  refine held_free 6 (.int .i64 6) rfl (by kernel_rfl) (by kernel_rfl) (by kernel_rfl) (by kernel_rfl) B0 (fun _ _ => by kernel_rfl) ?_
  refine held_free 7 (.string TI) rfl (by kernel_rfl) (by kernel_rfl) (by kernel_rfl) (by kernel_rfl) B0 (fun W _ => ex_slice_mid (v := .string s) (lv := .int .i64 2) (hv := .int .i64 6) 9 (.tmp 52) (.const (.int .i64 2)) (.tmp 54) (by kernel_rfl) (by kernel_rfl) (by kernel_rfl) (by kernel_rfl) (str_mid s 2 6 (by decide) (by have := HSZ.out; omega) TI HTI.out W)) ?_
  refine held_free 8 (.int .i64 0) rfl (by kernel_rfl) (by kernel_rfl) (by kernel_rfl) (by kernel_rfl) B0 (fun _ _ => by kernel_rfl) ?_
  refine held_free 9 (.bool false) rfl (by kernel_rfl) (by kernel_rfl) (by kernel_rfl) (by kernel_rfl) B0 (fun _ _ => ex_inteqb .i64 3 3 (.tmp 56) (.const (.int .i64 2)) (by kernel_rfl) (0) (2) (by kernel_rfl) (by kernel_rfl) (by kernel_rfl) false ((by decide))) ?_
  refine held_free 10 (.int .u64 (N : Int)) rfl (by kernel_rfl) (by kernel_rfl) (by kernel_rfl) (by kernel_rfl) B0 (fun _ _ => by kernel_rfl) ?_
  refine held_free 11 (.int .i64 (N : Int)) rfl (by kernel_rfl) (by kernel_rfl) (by kernel_rfl) (by kernel_rfl) B0 (fun W _ => ex_convert_to (v := .int .u64 (N : Int)) 57 3 (.tmp 58) (by kernel_rfl) (by kernel_rfl) (conv_u64_int N HN16.out W)) ?_
  refine held_free 12 (.string s) rfl (by kernel_rfl) (by kernel_rfl) (by kernel_rfl) (by kernel_rfl) B0 (fun _ _ => by kernel_rfl) ?_
  refine held_free 13 (.int .i64 4) rfl (by kernel_rfl) (by kernel_rfl) (by kernel_rfl) (by kernel_rfl) B0 (fun _ _ => by kernel_rfl) ?_
  refine held_free 14 (.int .i64 6) rfl (by kernel_rfl) (by kernel_rfl) (by kernel_rfl) (by kernel_rfl) B0 (fun _ _ => by kernel_rfl) ?_
  refine held_free 15 (.int .i64 0) rfl (by kernel_rfl) (by kernel_rfl) (by kernel_rfl) (by kernel_rfl) B0 (fun _ _ => by kernel_rfl) ?_
  refine held_free 16 (.int .i64 6) rfl (by kernel_rfl) (by kernel_rfl) (by kernel_rfl) (by kernel_rfl) B0 (fun _ _ => by kernel_rfl) ?_
  refine held_free 17 (.string TM) rfl (by kernel_rfl) (by kernel_rfl) (by kernel_rfl) (by kernel_rfl) B0 (fun W _ => ex_slice_back (v := .string s) (lv := .int .i64 6) 9 (.tmp 60) (.tmp 64) (by kernel_rfl) (by kernel_rfl) (by kernel_rfl) (str_tail s 6 (by have := HSZ.out; omega) TM HTM.out W)) ?_
  refine held_free 18 (.agg #[.bool true, .int .i64 (C : Int), .string TI, .bool false, .int .i64 (N : Int), .string TM]) rfl (by kernel_rfl) (by kernel_rfl) (by kernel_rfl) (by kernel_rfl) B0 (fun _ _ => by kernel_rfl) ?_
  refine held_skip (w' := V.drew.setRow r #[.bool true, .int .i64 (C : Int), .string TI, .bool false, .int .i64 (N : Int), .string TM]) 19 rfl (by kernel_rfl) (by kernel_rfl) (by rw [HWD.out]; exact ex_store_row 23 (.tmp 2) (.tmp 66) (by kernel_rfl) r #[.bool true, .int .i64 (C : Int), .string TI, .bool false, .int .i64 (N : Int), .string TM] (by kernel_rfl) (by kernel_rfl) 23 (adv Ad.zero) HZV.out.drew ad_size rfl (by simp [Value.oneCell'])) trivial ?_
  refine held_free 20 (.int .i64 0) rfl (by kernel_rfl) (by kernel_rfl) (by kernel_rfl) (by kernel_rfl) B0 (fun _ _ => by kernel_rfl) ?_
  refine held_end (by kernel_rfl) ?_
  go_wp2_with fail
  exact decD_end s w V.drew r (gotA true (byteAt s 1) (after2 s) 4 false) 0 (by kernel_rfl) (by kernel_rfl) (by kernel_rfl) _ HEQ.out _ HZV.out.drew HBV.out.drew HR.out HD.out
set_option maxHeartbeats 1000000 in
set_option maxRecDepth 100000 in
theorem decD_t1 (s : ByteArray) (hs : s.size ≤ 9223372036854775807) (hem : (s.toList == []) = false) (h0 : 0 < s.size) (l0 : (0 : Int) < (s.size : Int)) (F : Nat) (hF8 : F < 256) (hF0 : (s[0].toNat : Int) = (F : Int)) (e0 : ((F : Int) / 16 != 3) = false) (eE : ((F : Int) % 2 == 1) = true) (z0 : ((s.size : Int) != 6) = true) (z1 : s.size = 8) (hd : decA s = (gotA true (byteAt s 1) (after2 s) 4 true, 0)) (w : World) :
    Calls Try.prog 16 #[.string s] w fun e w' => e = .returned (decV s) ∧ Below w.heap.size w w' := by
  have HD := Lib.hid hd
  have HS := Lib.hid hs
  clear hd
  have HSZ := Lib.hid z1
  have e1 : ((s.size : Int) != 8) = false := by rw [bne_eq_false_iff_eq]; omega
  clear z1
  obtain ⟨r, hr⟩ : ∃ r, r = w.heap.size := ⟨_, rfl⟩
  obtain ⟨w0, hw0⟩ : ∃ w0, w0 = w.alloc (.cells #[.bool false, .int .i64 0, .string ⟨#[]⟩, .bool false, .int .i64 0, .string ⟨#[]⟩] 23) := ⟨_, rfl⟩
  have HZ := Lib.hid (show Blk w0 r 23 (adv Ad.zero) by rw [hw0, hr]; exact Blk.new _ _ _)
  have HB0 := Lib.hid (show Below w.heap.size w w0 by rw [hw0]; exact (Below.refl _ w).alloc (Nat.le_refl _) _)
  have HR := Lib.hid (show w.heap.size ≤ r by omega)
  have HR2 := Lib.hid hr
  have HW0 := Lib.hid hw0
  clear hr hw0
  go_enter Try.func16, Try.ntmps16
  go_upto_region 1 with fail
  rw [← HW0.out, ← HR2.out]
  go_wp2_with fail
  refine wp_loop_rounds 3 ?_
  rw [rounds_succ]
  go_wp2_with fail
  refine wp_loop_rounds 3 ?_
  rw [rounds_succ]
  go_wp2_with fail
  rw [rounds_succ]
  go_wp2_with fail
  obtain ⟨c, hc⟩ : ∃ c, c = w0.heap.size := ⟨_, rfl⟩
  obtain ⟨w1, hw1⟩ : ∃ W, W = w0.alloc (.cells #[.string s, .int .i64 6, .bool false] 74) := ⟨_, rfl⟩
  have hcur : Ref w1 c s 6 false := by rw [hw1, hc]; exact Blk.new _ _ _
  have HZ1 := HZ.out.alloc (.cells #[.string s, .int .i64 6, .bool false] 74)
  have HB1 := HB0.out.alloc HB0.out.size (.cells #[.string s, .int .i64 6, .bool false] 74)
  have HRC : r ≠ c := by have := HZ.out.lt; omega
  rw [← hw1] at HZ1 HB1
  rw [← hw1, ← hc]
  refine (Num_ref c s 6 false 2 (by decide) w1 HS.out (by have := HSZ.out; omega) hcur).mono ?_
  rintro e V ⟨rfl, mv⟩
  have HZV := Lib.hid (HZ1.grown mv.1 (by simpa using HRC))
  have HBV := Lib.hid (HB1.trans (below_of_only mv.1 (by have := HB0.out.size; omega) HB1.size))
  obtain ⟨N, hN⟩ : ∃ N, N = numO s 6 false 2 := ⟨_, rfl⟩
  rw [← hN]
  have hNn : N = num (txt (after2 s)) 4 (portOf true) := by rw [hN, numO_t (by unfold fits; have := HSZ.out; simp; omega), num_after]; rfl
  have HNN := Lib.hid hNn
  have HN16 := Lib.hid (show N ≤ 65535 by rw [hNn]; have := num_lt (txt (after2 s)) 4 2; show num _ _ 2 ≤ 65535; omega)
  obtain ⟨C, hC⟩ : ∃ C, byteAt s 1 = C := ⟨_, rfl⟩
  have HC := Lib.hid hC
  have HC8 := Lib.hid (show C ≤ 255 by have := byteAt_lt s 1; omega)
  have HL := Lib.hid (show 1 < s.size by have := HSZ.out; omega)
  obtain ⟨TI, hTI⟩ : ∃ T, s.extract 2 6 = T := ⟨_, rfl⟩
  obtain ⟨TM, hTM⟩ : ∃ T, s.extract 8 s.size = T := ⟨_, rfl⟩
  have HTI := Lib.hid hTI
  have HTM := Lib.hid hTM
  have HEQ := Lib.hid (show #[.bool true, .int .i64 (C : Int), .string TI, .bool true, .int .i64 (N : Int), .string TM] = adv (gotA true (byteAt s 1) (after2 s) 4 true) by
    show _ = (#[.bool true, .int .i64 ((byteAt s 1 : Nat) : Int), .string (txt ((after2 s).take 4)), .bool true, .int .i64 (num (txt (after2 s)) 4 (portOf true) : Int), .string (txt ((after2 s).drop (4 + portOf true)))] : Array Value)
    rw [hC, ← hTI, ← hTM, hNn, ← cut_2, ← tail_2]; rfl)
  clear hc hw1 hcur HZ1 HB1 HRC mv hN hNn hC hTI hTM
  go_upto_region 18 with fail
  have B0 : True := trivial
  refine held_start (fun _ => True) (by kernel_rfl) (n := 21) rfl ?_
  obtain ⟨W0, hW0⟩ : ∃ W0, W0 = V.drew := ⟨_, rfl⟩
  rw [← hW0]
  have HWD := Lib.hid hW0
  clear hW0
  refine held_free 0 (.bool true) rfl (by kernel_rfl) (by kernel_rfl) (by kernel_rfl) (by kernel_rfl) B0 (fun _ _ => by kernel_rfl) ?_
  refine held_free 1 (.string s) rfl (by kernel_rfl) (by kernel_rfl) (by kernel_rfl) (by kernel_rfl) B0 (fun _ _ => by kernel_rfl) ?_
  refine held_free 2 (.int .u8 (C : Int)) rfl (by kernel_rfl) (by kernel_rfl) (by kernel_rfl) (by kernel_rfl) B0 (fun _ _ => ex_byte 9 (.tmp 49) (.const (.int .i64 1)) (by kernel_rfl) s 1 C (by kernel_rfl) (by kernel_rfl) (by kernel_rfl) HL.out HC.out) ?_
  refine held_free 3 (.int .i64 (C : Int)) rfl (by kernel_rfl) (by kernel_rfl) (by kernel_rfl) (by kernel_rfl) B0 (fun W _ => ex_convert_to (v := .int .u8 (C : Int)) 5 3 (.tmp 50) (by kernel_rfl) (by kernel_rfl) (conv_u8_int C HC8.out W)) ?_
  refine held_free 4 (.string s) rfl (by kernel_rfl) (by kernel_rfl) (by kernel_rfl) (by kernel_rfl) B0 (fun _ _ => by kernel_rfl) ?_
  refine held_free 5 (.int .i64 4) rfl (by kernel_rfl) (by kernel_rfl) (by kernel_rfl) (by kernel_rfl) B0 (fun _ _ => by kernel_rfl) ?_
  refine held_free 6 (.int .i64 6) rfl (by kernel_rfl) (by kernel_rfl) (by kernel_rfl) (by kernel_rfl) B0 (fun _ _ => by kernel_rfl) ?_
  refine held_free 7 (.string TI) rfl (by kernel_rfl) (by kernel_rfl) (by kernel_rfl) (by kernel_rfl) B0 (fun W _ => ex_slice_mid (v := .string s) (lv := .int .i64 2) (hv := .int .i64 6) 9 (.tmp 52) (.const (.int .i64 2)) (.tmp 54) (by kernel_rfl) (by kernel_rfl) (by kernel_rfl) (by kernel_rfl) (str_mid s 2 6 (by decide) (by have := HSZ.out; omega) TI HTI.out W)) ?_
  refine held_free 8 (.int .i64 2) rfl (by kernel_rfl) (by kernel_rfl) (by kernel_rfl) (by kernel_rfl) B0 (fun _ _ => by kernel_rfl) ?_
  refine held_free 9 (.bool true) rfl (by kernel_rfl) (by kernel_rfl) (by kernel_rfl) (by kernel_rfl) B0 (fun _ _ => ex_inteqb .i64 3 3 (.tmp 56) (.const (.int .i64 2)) (by kernel_rfl) (2) (2) (by kernel_rfl) (by kernel_rfl) (by kernel_rfl) true ((by decide))) ?_
  refine held_free 10 (.int .u64 (N : Int)) rfl (by kernel_rfl) (by kernel_rfl) (by kernel_rfl) (by kernel_rfl) B0 (fun _ _ => by kernel_rfl) ?_
  refine held_free 11 (.int .i64 (N : Int)) rfl (by kernel_rfl) (by kernel_rfl) (by kernel_rfl) (by kernel_rfl) B0 (fun W _ => ex_convert_to (v := .int .u64 (N : Int)) 57 3 (.tmp 58) (by kernel_rfl) (by kernel_rfl) (conv_u64_int N HN16.out W)) ?_
  refine held_free 12 (.string s) rfl (by kernel_rfl) (by kernel_rfl) (by kernel_rfl) (by kernel_rfl) B0 (fun _ _ => by kernel_rfl) ?_
  refine held_free 13 (.int .i64 4) rfl (by kernel_rfl) (by kernel_rfl) (by kernel_rfl) (by kernel_rfl) B0 (fun _ _ => by kernel_rfl) ?_
  refine held_free 14 (.int .i64 6) rfl (by kernel_rfl) (by kernel_rfl) (by kernel_rfl) (by kernel_rfl) B0 (fun _ _ => by kernel_rfl) ?_
  refine held_free 15 (.int .i64 2) rfl (by kernel_rfl) (by kernel_rfl) (by kernel_rfl) (by kernel_rfl) B0 (fun _ _ => by kernel_rfl) ?_
  refine held_free 16 (.int .i64 8) rfl (by kernel_rfl) (by kernel_rfl) (by kernel_rfl) (by kernel_rfl) B0 (fun _ _ => by kernel_rfl) ?_
  refine held_free 17 (.string TM) rfl (by kernel_rfl) (by kernel_rfl) (by kernel_rfl) (by kernel_rfl) B0 (fun W _ => ex_slice_back (v := .string s) (lv := .int .i64 8) 9 (.tmp 60) (.tmp 64) (by kernel_rfl) (by kernel_rfl) (by kernel_rfl) (str_tail s 8 (by have := HSZ.out; omega) TM HTM.out W)) ?_
  refine held_free 18 (.agg #[.bool true, .int .i64 (C : Int), .string TI, .bool true, .int .i64 (N : Int), .string TM]) rfl (by kernel_rfl) (by kernel_rfl) (by kernel_rfl) (by kernel_rfl) B0 (fun _ _ => by kernel_rfl) ?_
  refine held_skip (w' := V.drew.setRow r #[.bool true, .int .i64 (C : Int), .string TI, .bool true, .int .i64 (N : Int), .string TM]) 19 rfl (by kernel_rfl) (by kernel_rfl) (by rw [HWD.out]; exact ex_store_row 23 (.tmp 2) (.tmp 66) (by kernel_rfl) r #[.bool true, .int .i64 (C : Int), .string TI, .bool true, .int .i64 (N : Int), .string TM] (by kernel_rfl) (by kernel_rfl) 23 (adv Ad.zero) HZV.out.drew ad_size rfl (by simp [Value.oneCell'])) trivial ?_
  refine held_free 20 (.int .i64 0) rfl (by kernel_rfl) (by kernel_rfl) (by kernel_rfl) (by kernel_rfl) B0 (fun _ _ => by kernel_rfl) ?_
  refine held_end (by kernel_rfl) ?_
  go_wp2_with fail
  exact decD_end s w V.drew r (gotA true (byteAt s 1) (after2 s) 4 true) 0 (by kernel_rfl) (by kernel_rfl) (by kernel_rfl) _ HEQ.out _ HZV.out.drew HBV.out.drew HR.out HD.out
set_option maxHeartbeats 1000000 in
set_option maxRecDepth 100000 in
theorem decD_t2 (s : ByteArray) (hs : s.size ≤ 9223372036854775807) (hem : (s.toList == []) = false) (h0 : 0 < s.size) (l0 : (0 : Int) < (s.size : Int)) (F : Nat) (hF8 : F < 256) (hF0 : (s[0].toNat : Int) = (F : Int)) (e0 : ((F : Int) / 16 != 3) = false) (eE : ((F : Int) % 2 == 1) = true) (z0 : ((s.size : Int) != 6) = true) (z1 : ((s.size : Int) != 8) = true) (z2 : s.size = 18) (hd : decA s = (gotA true (byteAt s 1) (after2 s) 16 false, 0)) (w : World) :
    Calls Try.prog 16 #[.string s] w fun e w' => e = .returned (decV s) ∧ Below w.heap.size w w' := by
  have HD := Lib.hid hd
  have HS := Lib.hid hs
  clear hd
  have HSZ := Lib.hid z2
  have e2 : ((s.size : Int) != 18) = false := by rw [bne_eq_false_iff_eq]; omega
  clear z2
  obtain ⟨r, hr⟩ : ∃ r, r = w.heap.size := ⟨_, rfl⟩
  obtain ⟨w0, hw0⟩ : ∃ w0, w0 = w.alloc (.cells #[.bool false, .int .i64 0, .string ⟨#[]⟩, .bool false, .int .i64 0, .string ⟨#[]⟩] 23) := ⟨_, rfl⟩
  have HZ := Lib.hid (show Blk w0 r 23 (adv Ad.zero) by rw [hw0, hr]; exact Blk.new _ _ _)
  have HB0 := Lib.hid (show Below w.heap.size w w0 by rw [hw0]; exact (Below.refl _ w).alloc (Nat.le_refl _) _)
  have HR := Lib.hid (show w.heap.size ≤ r by omega)
  have HR2 := Lib.hid hr
  have HW0 := Lib.hid hw0
  clear hr hw0
  go_enter Try.func16, Try.ntmps16
  go_upto_region 1 with fail
  rw [← HW0.out, ← HR2.out]
  go_wp2_with fail
  refine wp_loop_rounds 3 ?_
  rw [rounds_succ]
  go_wp2_with fail
  refine wp_loop_rounds 3 ?_
  rw [rounds_succ]
  go_wp2_with fail
  rw [rounds_succ]
  go_wp2_with fail
  rw [rounds_succ]
  go_wp2_with fail
  rw [rounds_succ]
  go_wp2_with fail
  refine wp_loop_rounds 3 ?_
  rw [rounds_succ]
  go_wp2_with fail
  obtain ⟨c, hc⟩ : ∃ c, c = w0.heap.size := ⟨_, rfl⟩
  obtain ⟨w1, hw1⟩ : ∃ W, W = w0.alloc (.cells #[.string s, .int .i64 18, .bool false] 74) := ⟨_, rfl⟩
  have hcur : Ref w1 c s 18 false := by rw [hw1, hc]; exact Blk.new _ _ _
  have HZ1 := HZ.out.alloc (.cells #[.string s, .int .i64 18, .bool false] 74)
  have HB1 := HB0.out.alloc HB0.out.size (.cells #[.string s, .int .i64 18, .bool false] 74)
  have HRC : r ≠ c := by have := HZ.out.lt; omega
  rw [← hw1] at HZ1 HB1
  rw [← hw1, ← hc]
  refine (Num_ref c s 18 false 0 (by decide) w1 HS.out (by have := HSZ.out; omega) hcur).mono ?_
  rintro e V ⟨rfl, mv⟩
  have HZV := Lib.hid (HZ1.grown mv.1 (by simpa using HRC))
  have HBV := Lib.hid (HB1.trans (below_of_only mv.1 (by have := HB0.out.size; omega) HB1.size))
  obtain ⟨N, hN⟩ : ∃ N, N = numO s 18 false 0 := ⟨_, rfl⟩
  rw [← hN]
  have hNn : N = num (txt (after2 s)) 16 (portOf false) := by rw [hN, numO_t (by unfold fits; have := HSZ.out; simp; omega), num_after]; rfl
  have HNN := Lib.hid hNn
  have HN16 := Lib.hid (show N ≤ 65535 by rw [hNn]; exact Nat.zero_le _)
  obtain ⟨C, hC⟩ : ∃ C, byteAt s 1 = C := ⟨_, rfl⟩
  have HC := Lib.hid hC
  have HC8 := Lib.hid (show C ≤ 255 by have := byteAt_lt s 1; omega)
  have HL := Lib.hid (show 1 < s.size by have := HSZ.out; omega)
  obtain ⟨TI, hTI⟩ : ∃ T, s.extract 2 18 = T := ⟨_, rfl⟩
  obtain ⟨TM, hTM⟩ : ∃ T, s.extract 18 s.size = T := ⟨_, rfl⟩
  have HTI := Lib.hid hTI
  have HTM := Lib.hid hTM
  have HEQ := Lib.hid (show #[.bool true, .int .i64 (C : Int), .string TI, .bool false, .int .i64 (N : Int), .string TM] = adv (gotA true (byteAt s 1) (after2 s) 16 false) by
    show _ = (#[.bool true, .int .i64 ((byteAt s 1 : Nat) : Int), .string (txt ((after2 s).take 16)), .bool false, .int .i64 (num (txt (after2 s)) 16 (portOf false) : Int), .string (txt ((after2 s).drop (16 + portOf false)))] : Array Value)
    rw [hC, ← hTI, ← hTM, hNn, ← cut_2, ← tail_2]; rfl)
  clear hc hw1 hcur HZ1 HB1 HRC mv hN hNn hC hTI hTM
  go_upto_region 18 with fail
  have B0 : True := trivial
  refine held_start (fun _ => True) (by kernel_rfl) (n := 21) rfl ?_
  obtain ⟨W0, hW0⟩ : ∃ W0, W0 = V.drew := ⟨_, rfl⟩
  rw [← hW0]
  have HWD := Lib.hid hW0
  clear hW0
  refine held_free 0 (.bool true) rfl (by kernel_rfl) (by kernel_rfl) (by kernel_rfl) (by kernel_rfl) B0 (fun _ _ => by kernel_rfl) ?_
  refine held_free 1 (.string s) rfl (by kernel_rfl) (by kernel_rfl) (by kernel_rfl) (by kernel_rfl) B0 (fun _ _ => by kernel_rfl) ?_
  refine held_free 2 (.int .u8 (C : Int)) rfl (by kernel_rfl) (by kernel_rfl) (by kernel_rfl) (by kernel_rfl) B0 (fun _ _ => ex_byte 9 (.tmp 49) (.const (.int .i64 1)) (by kernel_rfl) s 1 C (by kernel_rfl) (by kernel_rfl) (by kernel_rfl) HL.out HC.out) ?_
  refine held_free 3 (.int .i64 (C : Int)) rfl (by kernel_rfl) (by kernel_rfl) (by kernel_rfl) (by kernel_rfl) B0 (fun W _ => ex_convert_to (v := .int .u8 (C : Int)) 5 3 (.tmp 50) (by kernel_rfl) (by kernel_rfl) (conv_u8_int C HC8.out W)) ?_
  refine held_free 4 (.string s) rfl (by kernel_rfl) (by kernel_rfl) (by kernel_rfl) (by kernel_rfl) B0 (fun _ _ => by kernel_rfl) ?_
  refine held_free 5 (.int .i64 16) rfl (by kernel_rfl) (by kernel_rfl) (by kernel_rfl) (by kernel_rfl) B0 (fun _ _ => by kernel_rfl) ?_
  refine held_free 6 (.int .i64 18) rfl (by kernel_rfl) (by kernel_rfl) (by kernel_rfl) (by kernel_rfl) B0 (fun _ _ => by kernel_rfl) ?_
  refine held_free 7 (.string TI) rfl (by kernel_rfl) (by kernel_rfl) (by kernel_rfl) (by kernel_rfl) B0 (fun W _ => ex_slice_mid (v := .string s) (lv := .int .i64 2) (hv := .int .i64 18) 9 (.tmp 52) (.const (.int .i64 2)) (.tmp 54) (by kernel_rfl) (by kernel_rfl) (by kernel_rfl) (by kernel_rfl) (str_mid s 2 18 (by decide) (by have := HSZ.out; omega) TI HTI.out W)) ?_
  refine held_free 8 (.int .i64 0) rfl (by kernel_rfl) (by kernel_rfl) (by kernel_rfl) (by kernel_rfl) B0 (fun _ _ => by kernel_rfl) ?_
  refine held_free 9 (.bool false) rfl (by kernel_rfl) (by kernel_rfl) (by kernel_rfl) (by kernel_rfl) B0 (fun _ _ => ex_inteqb .i64 3 3 (.tmp 56) (.const (.int .i64 2)) (by kernel_rfl) (0) (2) (by kernel_rfl) (by kernel_rfl) (by kernel_rfl) false ((by decide))) ?_
  refine held_free 10 (.int .u64 (N : Int)) rfl (by kernel_rfl) (by kernel_rfl) (by kernel_rfl) (by kernel_rfl) B0 (fun _ _ => by kernel_rfl) ?_
  refine held_free 11 (.int .i64 (N : Int)) rfl (by kernel_rfl) (by kernel_rfl) (by kernel_rfl) (by kernel_rfl) B0 (fun W _ => ex_convert_to (v := .int .u64 (N : Int)) 57 3 (.tmp 58) (by kernel_rfl) (by kernel_rfl) (conv_u64_int N HN16.out W)) ?_
  refine held_free 12 (.string s) rfl (by kernel_rfl) (by kernel_rfl) (by kernel_rfl) (by kernel_rfl) B0 (fun _ _ => by kernel_rfl) ?_
  refine held_free 13 (.int .i64 16) rfl (by kernel_rfl) (by kernel_rfl) (by kernel_rfl) (by kernel_rfl) B0 (fun _ _ => by kernel_rfl) ?_
  refine held_free 14 (.int .i64 18) rfl (by kernel_rfl) (by kernel_rfl) (by kernel_rfl) (by kernel_rfl) B0 (fun _ _ => by kernel_rfl) ?_
  refine held_free 15 (.int .i64 0) rfl (by kernel_rfl) (by kernel_rfl) (by kernel_rfl) (by kernel_rfl) B0 (fun _ _ => by kernel_rfl) ?_
  refine held_free 16 (.int .i64 18) rfl (by kernel_rfl) (by kernel_rfl) (by kernel_rfl) (by kernel_rfl) B0 (fun _ _ => by kernel_rfl) ?_
  refine held_free 17 (.string TM) rfl (by kernel_rfl) (by kernel_rfl) (by kernel_rfl) (by kernel_rfl) B0 (fun W _ => ex_slice_back (v := .string s) (lv := .int .i64 18) 9 (.tmp 60) (.tmp 64) (by kernel_rfl) (by kernel_rfl) (by kernel_rfl) (str_tail s 18 (by have := HSZ.out; omega) TM HTM.out W)) ?_
  refine held_free 18 (.agg #[.bool true, .int .i64 (C : Int), .string TI, .bool false, .int .i64 (N : Int), .string TM]) rfl (by kernel_rfl) (by kernel_rfl) (by kernel_rfl) (by kernel_rfl) B0 (fun _ _ => by kernel_rfl) ?_
  refine held_skip (w' := V.drew.setRow r #[.bool true, .int .i64 (C : Int), .string TI, .bool false, .int .i64 (N : Int), .string TM]) 19 rfl (by kernel_rfl) (by kernel_rfl) (by rw [HWD.out]; exact ex_store_row 23 (.tmp 2) (.tmp 66) (by kernel_rfl) r #[.bool true, .int .i64 (C : Int), .string TI, .bool false, .int .i64 (N : Int), .string TM] (by kernel_rfl) (by kernel_rfl) 23 (adv Ad.zero) HZV.out.drew ad_size rfl (by simp [Value.oneCell'])) trivial ?_
  refine held_free 20 (.int .i64 0) rfl (by kernel_rfl) (by kernel_rfl) (by kernel_rfl) (by kernel_rfl) B0 (fun _ _ => by kernel_rfl) ?_
  refine held_end (by kernel_rfl) ?_
  go_wp2_with fail
  exact decD_end s w V.drew r (gotA true (byteAt s 1) (after2 s) 16 false) 0 (by kernel_rfl) (by kernel_rfl) (by kernel_rfl) _ HEQ.out _ HZV.out.drew HBV.out.drew HR.out HD.out
set_option maxHeartbeats 1000000 in
set_option maxRecDepth 100000 in
theorem decD_t3 (s : ByteArray) (hs : s.size ≤ 9223372036854775807) (hem : (s.toList == []) = false) (h0 : 0 < s.size) (l0 : (0 : Int) < (s.size : Int)) (F : Nat) (hF8 : F < 256) (hF0 : (s[0].toNat : Int) = (F : Int)) (e0 : ((F : Int) / 16 != 3) = false) (eE : ((F : Int) % 2 == 1) = true) (z0 : ((s.size : Int) != 6) = true) (z1 : ((s.size : Int) != 8) = true) (z2 : ((s.size : Int) != 18) = true) (z3 : s.size = 20) (hd : decA s = (gotA true (byteAt s 1) (after2 s) 16 true, 0)) (w : World) :
    Calls Try.prog 16 #[.string s] w fun e w' => e = .returned (decV s) ∧ Below w.heap.size w w' := by
  have HD := Lib.hid hd
  have HS := Lib.hid hs
  clear hd
  have HSZ := Lib.hid z3
  have e3 : ((s.size : Int) != 20) = false := by rw [bne_eq_false_iff_eq]; omega
  clear z3
  obtain ⟨r, hr⟩ : ∃ r, r = w.heap.size := ⟨_, rfl⟩
  obtain ⟨w0, hw0⟩ : ∃ w0, w0 = w.alloc (.cells #[.bool false, .int .i64 0, .string ⟨#[]⟩, .bool false, .int .i64 0, .string ⟨#[]⟩] 23) := ⟨_, rfl⟩
  have HZ := Lib.hid (show Blk w0 r 23 (adv Ad.zero) by rw [hw0, hr]; exact Blk.new _ _ _)
  have HB0 := Lib.hid (show Below w.heap.size w w0 by rw [hw0]; exact (Below.refl _ w).alloc (Nat.le_refl _) _)
  have HR := Lib.hid (show w.heap.size ≤ r by omega)
  have HR2 := Lib.hid hr
  have HW0 := Lib.hid hw0
  clear hr hw0
  go_enter Try.func16, Try.ntmps16
  go_upto_region 1 with fail
  rw [← HW0.out, ← HR2.out]
  go_wp2_with fail
  refine wp_loop_rounds 3 ?_
  rw [rounds_succ]
  go_wp2_with fail
  refine wp_loop_rounds 3 ?_
  rw [rounds_succ]
  go_wp2_with fail
  rw [rounds_succ]
  go_wp2_with fail
  rw [rounds_succ]
  go_wp2_with fail
  rw [rounds_succ]
  go_wp2_with fail
  refine wp_loop_rounds 3 ?_
  rw [rounds_succ]
  go_wp2_with fail
  rw [rounds_succ]
  go_wp2_with fail
  obtain ⟨c, hc⟩ : ∃ c, c = w0.heap.size := ⟨_, rfl⟩
  obtain ⟨w1, hw1⟩ : ∃ W, W = w0.alloc (.cells #[.string s, .int .i64 18, .bool false] 74) := ⟨_, rfl⟩
  have hcur : Ref w1 c s 18 false := by rw [hw1, hc]; exact Blk.new _ _ _
  have HZ1 := HZ.out.alloc (.cells #[.string s, .int .i64 18, .bool false] 74)
  have HB1 := HB0.out.alloc HB0.out.size (.cells #[.string s, .int .i64 18, .bool false] 74)
  have HRC : r ≠ c := by have := HZ.out.lt; omega
  rw [← hw1] at HZ1 HB1
  rw [← hw1, ← hc]
  refine (Num_ref c s 18 false 2 (by decide) w1 HS.out (by have := HSZ.out; omega) hcur).mono ?_
  rintro e V ⟨rfl, mv⟩
  have HZV := Lib.hid (HZ1.grown mv.1 (by simpa using HRC))
  have HBV := Lib.hid (HB1.trans (below_of_only mv.1 (by have := HB0.out.size; omega) HB1.size))
  obtain ⟨N, hN⟩ : ∃ N, N = numO s 18 false 2 := ⟨_, rfl⟩
  rw [← hN]
  have hNn : N = num (txt (after2 s)) 16 (portOf true) := by rw [hN, numO_t (by unfold fits; have := HSZ.out; simp; omega), num_after]; rfl
  have HNN := Lib.hid hNn
  have HN16 := Lib.hid (show N ≤ 65535 by rw [hNn]; have := num_lt (txt (after2 s)) 16 2; show num _ _ 2 ≤ 65535; omega)
  obtain ⟨C, hC⟩ : ∃ C, byteAt s 1 = C := ⟨_, rfl⟩
  have HC := Lib.hid hC
  have HC8 := Lib.hid (show C ≤ 255 by have := byteAt_lt s 1; omega)
  have HL := Lib.hid (show 1 < s.size by have := HSZ.out; omega)
  obtain ⟨TI, hTI⟩ : ∃ T, s.extract 2 18 = T := ⟨_, rfl⟩
  obtain ⟨TM, hTM⟩ : ∃ T, s.extract 20 s.size = T := ⟨_, rfl⟩
  have HTI := Lib.hid hTI
  have HTM := Lib.hid hTM
  have HEQ := Lib.hid (show #[.bool true, .int .i64 (C : Int), .string TI, .bool true, .int .i64 (N : Int), .string TM] = adv (gotA true (byteAt s 1) (after2 s) 16 true) by
    show _ = (#[.bool true, .int .i64 ((byteAt s 1 : Nat) : Int), .string (txt ((after2 s).take 16)), .bool true, .int .i64 (num (txt (after2 s)) 16 (portOf true) : Int), .string (txt ((after2 s).drop (16 + portOf true)))] : Array Value)
    rw [hC, ← hTI, ← hTM, hNn, ← cut_2, ← tail_2]; rfl)
  clear hc hw1 hcur HZ1 HB1 HRC mv hN hNn hC hTI hTM
  go_upto_region 18 with fail
  have B0 : True := trivial
  refine held_start (fun _ => True) (by kernel_rfl) (n := 21) rfl ?_
  obtain ⟨W0, hW0⟩ : ∃ W0, W0 = V.drew := ⟨_, rfl⟩
  rw [← hW0]
  have HWD := Lib.hid hW0
  clear hW0
  refine held_free 0 (.bool true) rfl (by kernel_rfl) (by kernel_rfl) (by kernel_rfl) (by kernel_rfl) B0 (fun _ _ => by kernel_rfl) ?_
  refine held_free 1 (.string s) rfl (by kernel_rfl) (by kernel_rfl) (by kernel_rfl) (by kernel_rfl) B0 (fun _ _ => by kernel_rfl) ?_
  refine held_free 2 (.int .u8 (C : Int)) rfl (by kernel_rfl) (by kernel_rfl) (by kernel_rfl) (by kernel_rfl) B0 (fun _ _ => ex_byte 9 (.tmp 49) (.const (.int .i64 1)) (by kernel_rfl) s 1 C (by kernel_rfl) (by kernel_rfl) (by kernel_rfl) HL.out HC.out) ?_
  refine held_free 3 (.int .i64 (C : Int)) rfl (by kernel_rfl) (by kernel_rfl) (by kernel_rfl) (by kernel_rfl) B0 (fun W _ => ex_convert_to (v := .int .u8 (C : Int)) 5 3 (.tmp 50) (by kernel_rfl) (by kernel_rfl) (conv_u8_int C HC8.out W)) ?_
  refine held_free 4 (.string s) rfl (by kernel_rfl) (by kernel_rfl) (by kernel_rfl) (by kernel_rfl) B0 (fun _ _ => by kernel_rfl) ?_
  refine held_free 5 (.int .i64 16) rfl (by kernel_rfl) (by kernel_rfl) (by kernel_rfl) (by kernel_rfl) B0 (fun _ _ => by kernel_rfl) ?_
  refine held_free 6 (.int .i64 18) rfl (by kernel_rfl) (by kernel_rfl) (by kernel_rfl) (by kernel_rfl) B0 (fun _ _ => by kernel_rfl) ?_
  refine held_free 7 (.string TI) rfl (by kernel_rfl) (by kernel_rfl) (by kernel_rfl) (by kernel_rfl) B0 (fun W _ => ex_slice_mid (v := .string s) (lv := .int .i64 2) (hv := .int .i64 18) 9 (.tmp 52) (.const (.int .i64 2)) (.tmp 54) (by kernel_rfl) (by kernel_rfl) (by kernel_rfl) (by kernel_rfl) (str_mid s 2 18 (by decide) (by have := HSZ.out; omega) TI HTI.out W)) ?_
  refine held_free 8 (.int .i64 2) rfl (by kernel_rfl) (by kernel_rfl) (by kernel_rfl) (by kernel_rfl) B0 (fun _ _ => by kernel_rfl) ?_
  refine held_free 9 (.bool true) rfl (by kernel_rfl) (by kernel_rfl) (by kernel_rfl) (by kernel_rfl) B0 (fun _ _ => ex_inteqb .i64 3 3 (.tmp 56) (.const (.int .i64 2)) (by kernel_rfl) (2) (2) (by kernel_rfl) (by kernel_rfl) (by kernel_rfl) true ((by decide))) ?_
  refine held_free 10 (.int .u64 (N : Int)) rfl (by kernel_rfl) (by kernel_rfl) (by kernel_rfl) (by kernel_rfl) B0 (fun _ _ => by kernel_rfl) ?_
  refine held_free 11 (.int .i64 (N : Int)) rfl (by kernel_rfl) (by kernel_rfl) (by kernel_rfl) (by kernel_rfl) B0 (fun W _ => ex_convert_to (v := .int .u64 (N : Int)) 57 3 (.tmp 58) (by kernel_rfl) (by kernel_rfl) (conv_u64_int N HN16.out W)) ?_
  refine held_free 12 (.string s) rfl (by kernel_rfl) (by kernel_rfl) (by kernel_rfl) (by kernel_rfl) B0 (fun _ _ => by kernel_rfl) ?_
  refine held_free 13 (.int .i64 16) rfl (by kernel_rfl) (by kernel_rfl) (by kernel_rfl) (by kernel_rfl) B0 (fun _ _ => by kernel_rfl) ?_
  refine held_free 14 (.int .i64 18) rfl (by kernel_rfl) (by kernel_rfl) (by kernel_rfl) (by kernel_rfl) B0 (fun _ _ => by kernel_rfl) ?_
  refine held_free 15 (.int .i64 2) rfl (by kernel_rfl) (by kernel_rfl) (by kernel_rfl) (by kernel_rfl) B0 (fun _ _ => by kernel_rfl) ?_
  refine held_free 16 (.int .i64 20) rfl (by kernel_rfl) (by kernel_rfl) (by kernel_rfl) (by kernel_rfl) B0 (fun _ _ => by kernel_rfl) ?_
  refine held_free 17 (.string TM) rfl (by kernel_rfl) (by kernel_rfl) (by kernel_rfl) (by kernel_rfl) B0 (fun W _ => ex_slice_back (v := .string s) (lv := .int .i64 20) 9 (.tmp 60) (.tmp 64) (by kernel_rfl) (by kernel_rfl) (by kernel_rfl) (str_tail s 20 (by have := HSZ.out; omega) TM HTM.out W)) ?_
  refine held_free 18 (.agg #[.bool true, .int .i64 (C : Int), .string TI, .bool true, .int .i64 (N : Int), .string TM]) rfl (by kernel_rfl) (by kernel_rfl) (by kernel_rfl) (by kernel_rfl) B0 (fun _ _ => by kernel_rfl) ?_
  refine held_skip (w' := V.drew.setRow r #[.bool true, .int .i64 (C : Int), .string TI, .bool true, .int .i64 (N : Int), .string TM]) 19 rfl (by kernel_rfl) (by kernel_rfl) (by rw [HWD.out]; exact ex_store_row 23 (.tmp 2) (.tmp 66) (by kernel_rfl) r #[.bool true, .int .i64 (C : Int), .string TI, .bool true, .int .i64 (N : Int), .string TM] (by kernel_rfl) (by kernel_rfl) 23 (adv Ad.zero) HZV.out.drew ad_size rfl (by simp [Value.oneCell'])) trivial ?_
  refine held_free 20 (.int .i64 0) rfl (by kernel_rfl) (by kernel_rfl) (by kernel_rfl) (by kernel_rfl) B0 (fun _ _ => by kernel_rfl) ?_
  refine held_end (by kernel_rfl) ?_
  go_wp2_with fail
  exact decD_end s w V.drew r (gotA true (byteAt s 1) (after2 s) 16 true) 0 (by kernel_rfl) (by kernel_rfl) (by kernel_rfl) _ HEQ.out _ HZV.out.drew HBV.out.drew HR.out HD.out
set_option maxHeartbeats 1000000 in
set_option maxRecDepth 100000 in
theorem decD_tx (s : ByteArray) (hs : s.size ≤ 9223372036854775807) (hem : (s.toList == []) = false) (h0 : 0 < s.size) (l0 : (0 : Int) < (s.size : Int)) (F : Nat) (hF8 : F < 256) (hF0 : (s[0].toNat : Int) = (F : Int)) (e0 : ((F : Int) / 16 != 3) = false) (eE : ((F : Int) % 2 == 1) = true) (z0 : ((s.size : Int) != 6) = true) (z1 : ((s.size : Int) != 8) = true) (z2 : ((s.size : Int) != 18) = true) (z3 : ((s.size : Int) != 20) = true) (hd : decA s = (.zero, 5)) (w : World) :
    Calls Try.prog 16 #[.string s] w fun e w' => e = .returned (decV s) ∧ Below w.heap.size w w' := by
  have HD := Lib.hid hd
  have HS := Lib.hid hs
  clear hd
  obtain ⟨r, hr⟩ : ∃ r, r = w.heap.size := ⟨_, rfl⟩
  obtain ⟨w0, hw0⟩ : ∃ w0, w0 = w.alloc (.cells #[.bool false, .int .i64 0, .string ⟨#[]⟩, .bool false, .int .i64 0, .string ⟨#[]⟩] 23) := ⟨_, rfl⟩
  have HZ := Lib.hid (show Blk w0 r 23 (adv Ad.zero) by rw [hw0, hr]; exact Blk.new _ _ _)
  have HB0 := Lib.hid (show Below w.heap.size w w0 by rw [hw0]; exact (Below.refl _ w).alloc (Nat.le_refl _) _)
  have HR := Lib.hid (show w.heap.size ≤ r by omega)
  have HR2 := Lib.hid hr
  have HW0 := Lib.hid hw0
  clear hr hw0
  go_enter Try.func16, Try.ntmps16
  go_upto_region 1 with fail
  rw [← HW0.out, ← HR2.out]
  go_wp2_with fail
  refine wp_loop_rounds 3 ?_
  rw [rounds_succ]
  go_wp2_with fail
  refine wp_loop_rounds 3 ?_
  rw [rounds_succ]
  go_wp2_with fail
  rw [rounds_succ]
  go_wp2_with fail
  rw [rounds_succ]
  go_wp2_with fail
  rw [rounds_succ]
  go_wp2_with fail
  refine wp_loop_rounds 3 ?_
  rw [rounds_succ]
  go_wp2_with fail
  rw [rounds_succ]
  go_wp2_with fail
  rw [rounds_succ]
  go_wp2_with fail
  rw [rounds_succ]
  go_wp2_with (refine wpList_store_row rfl 23 _ _ rfl r (adv Ad.zero) rfl rfl 23 (adv Ad.zero) ?_ ad_size rfl (ad_one _) ?_; exact HZ.out)
  exact decD_end s w w0 r Ad.zero 5 rfl rfl rfl _ rfl _ HZ.out HB0.out HR.out HD.out
theorem list_nil (s : ByteArray) (h : s.size = 0) : (s.toList == []) = true := by
  rw [beq_iff_eq, ByteArray.toList_eq, empty_of s h]
theorem list_some (s : ByteArray) (h : s.size ≠ 0) : (s.toList == []) = false := by
  rw [beq_eq_false_iff_ne]
  intro e
  rw [ByteArray.toList_eq] at e
  have := congrArg List.length e
  rw [len_data] at this
  exact h this
theorem shape_no (n : Nat) (e : Bool) (h0 : n ≠ 6 + macOf e) (h1 : n ≠ 8 + macOf e) (h2 : n ≠ 18 + macOf e) (h3 : n ≠ 20 + macOf e) : shape n e = none := by unfold shape; rw [if_neg h0, if_neg h1, if_neg h2, if_neg h3]
theorem DecodeAddR_any (s : ByteArray) (hs : s.size ≤ 9223372036854775807) (w : World) :
    Calls Try.prog 16 #[.string s] w fun e w' => e = .returned (decV s) ∧ Below w.heap.size w w' := by
  by_cases h0 : s.size = 0
  · exact decD_short s (list_nil s h0) (decA_short s h0) w
  have hp : 0 < s.size := by omega
  have hem := list_some s h0
  have hg := byteAt_get s 0 hp
  have hF : (s[0].toNat : Int) = ((byteAt s 0 : Nat) : Int) := by rw [hg]
  have hF8 := byteAt_lt s 0
  by_cases hk : byteAt s 0 / 16 = 3
  · have e0 : (((byteAt s 0 : Nat) : Int) / 16 != 3) = false := by rw [bne_eq_false_iff_eq]; omega
    cases hE : odd (byteAt s 0)
    · have eE : (((byteAt s 0 : Nat) : Int) % 2 == 1) = false := by rw [beq_eq_false_iff_ne]; have := of_decide_eq_false hE; omega
      by_cases y0 : s.size = 14
      · have q := decA_some s 4 false h0 hk (by rw [hE, y0]; rfl)
        rw [hE] at q
        exact decD_f0 s hs hem hp (by omega) _ hF8 hF e0 eE  y0 q w
      have z0 : ((s.size : Int) != 14) = true := by rw [bne_iff_ne]; omega
      by_cases y1 : s.size = 16
      · have q := decA_some s 4 true h0 hk (by rw [hE, y1]; rfl)
        rw [hE] at q
        exact decD_f1 s hs hem hp (by omega) _ hF8 hF e0 eE z0 y1 q w
      have z1 : ((s.size : Int) != 16) = true := by rw [bne_iff_ne]; omega
      by_cases y2 : s.size = 26
      · have q := decA_some s 16 false h0 hk (by rw [hE, y2]; rfl)
        rw [hE] at q
        exact decD_f2 s hs hem hp (by omega) _ hF8 hF e0 eE z0 z1 y2 q w
      have z2 : ((s.size : Int) != 26) = true := by rw [bne_iff_ne]; omega
      by_cases y3 : s.size = 28
      · have q := decA_some s 16 true h0 hk (by rw [hE, y3]; rfl)
        rw [hE] at q
        exact decD_f3 s hs hem hp (by omega) _ hF8 hF e0 eE z0 z1 z2 y3 q w
      have z3 : ((s.size : Int) != 28) = true := by rw [bne_iff_ne]; omega
      exact decD_fx s hs hem hp (by omega) _ hF8 hF e0 eE z0 z1 z2 z3 (decA_form s h0 hk (by rw [hE]; exact shape_no _ _ y0 y1 y2 y3)) w
    · have eE : (((byteAt s 0 : Nat) : Int) % 2 == 1) = true := by rw [beq_iff_eq]; have := of_decide_eq_true hE; omega
      by_cases y0 : s.size = 6
      · have q := decA_some s 4 false h0 hk (by rw [hE, y0]; rfl)
        rw [hE] at q
        exact decD_t0 s hs hem hp (by omega) _ hF8 hF e0 eE  y0 q w
      have z0 : ((s.size : Int) != 6) = true := by rw [bne_iff_ne]; omega
      by_cases y1 : s.size = 8
      · have q := decA_some s 4 true h0 hk (by rw [hE, y1]; rfl)
        rw [hE] at q
        exact decD_t1 s hs hem hp (by omega) _ hF8 hF e0 eE z0 y1 q w
      have z1 : ((s.size : Int) != 8) = true := by rw [bne_iff_ne]; omega
      by_cases y2 : s.size = 18
      · have q := decA_some s 16 false h0 hk (by rw [hE, y2]; rfl)
        rw [hE] at q
        exact decD_t2 s hs hem hp (by omega) _ hF8 hF e0 eE z0 z1 y2 q w
      have z2 : ((s.size : Int) != 18) = true := by rw [bne_iff_ne]; omega
      by_cases y3 : s.size = 20
      · have q := decA_some s 16 true h0 hk (by rw [hE, y3]; rfl)
        rw [hE] at q
        exact decD_t3 s hs hem hp (by omega) _ hF8 hF e0 eE z0 z1 z2 y3 q w
      have z3 : ((s.size : Int) != 20) = true := by rw [bne_iff_ne]; omega
      exact decD_tx s hs hem hp (by omega) _ hF8 hF e0 eE z0 z1 z2 z3 (decA_form s h0 hk (by rw [hE]; exact shape_no _ _ y0 y1 y2 y3)) w
  · have e0 : (((byteAt s 0 : Nat) : Int) / 16 != 3) = true := by rw [bne_iff_ne]; omega
    exact decD_kind s hem hp (by omega) _ hF8 hF e0 (decA_kind s h0 hk) w
set_option maxHeartbeats 1000000 in
set_option maxRecDepth 100000 in
theorem decDR_short (s : ByteArray) (hs : s.size ≤ 9223372036854775807) (hem : (s.toList == []) = true) (hd : decR s = (⟨#[]⟩, 4)) (w : World) :
    Calls Try.prog 18 #[.string s] w fun e w' => e = .returned (decRV s) ∧ Below w.heap.size w w' := by
  have HD := Lib.hid hd
  clear hd
  obtain ⟨r, hr⟩ : ∃ r, r = w.heap.size := ⟨_, rfl⟩
  obtain ⟨w0, hw0⟩ : ∃ w0, w0 = w.alloc (.cells #[.string ⟨#[]⟩] 29) := ⟨_, rfl⟩
  have HZ := Lib.hid (show Blk w0 r 29 (rmv ⟨#[]⟩) by rw [hw0, hr]; exact Blk.new _ _ _)
  have HB0 := Lib.hid (show Below w.heap.size w w0 by rw [hw0]; exact (Below.refl _ w).alloc (Nat.le_refl _) _)
  have HR := Lib.hid (show w.heap.size ≤ r by omega)
  have HR2 := Lib.hid hr
  have HW0 := Lib.hid hw0
  clear hr hw0
  go_enter Try.func18, Try.ntmps18
  go_upto_region 1 with fail
  rw [← HW0.out, ← HR2.out]
  go_wp2_with (refine wpList_store_row rfl 29 _ _ rfl r (rmv ⟨#[]⟩) rfl rfl 29 (rmv ⟨#[]⟩) ?_ rm_size rfl (rm_one _) ?_; exact HZ.out)
  exact decDR_end s w w0 r ⟨#[]⟩ 4 rfl rfl rfl _ rfl _ HZ.out HB0.out HR.out HD.out
set_option maxHeartbeats 1000000 in
set_option maxRecDepth 100000 in
theorem decDR_kind (s : ByteArray) (hs : s.size ≤ 9223372036854775807) (hem : (s.toList == []) = false) (h0 : 0 < s.size) (l0 : (0 : Int) < (s.size : Int)) (F : Nat) (hF8 : F < 256) (hF0 : (s[0].toNat : Int) = (F : Int)) (e0 : ((F : Int) / 16 != 4) = true) (hd : decR s = (⟨#[]⟩, 7)) (w : World) :
    Calls Try.prog 18 #[.string s] w fun e w' => e = .returned (decRV s) ∧ Below w.heap.size w w' := by
  have HD := Lib.hid hd
  clear hd
  obtain ⟨r, hr⟩ : ∃ r, r = w.heap.size := ⟨_, rfl⟩
  obtain ⟨w0, hw0⟩ : ∃ w0, w0 = w.alloc (.cells #[.string ⟨#[]⟩] 29) := ⟨_, rfl⟩
  have HZ := Lib.hid (show Blk w0 r 29 (rmv ⟨#[]⟩) by rw [hw0, hr]; exact Blk.new _ _ _)
  have HB0 := Lib.hid (show Below w.heap.size w w0 by rw [hw0]; exact (Below.refl _ w).alloc (Nat.le_refl _) _)
  have HR := Lib.hid (show w.heap.size ≤ r by omega)
  have HR2 := Lib.hid hr
  have HW0 := Lib.hid hw0
  clear hr hw0
  go_enter Try.func18, Try.ntmps18
  go_upto_region 1 with fail
  rw [← HW0.out, ← HR2.out]
  go_wp2_with (refine wpList_store_row rfl 29 _ _ rfl r (rmv ⟨#[]⟩) rfl rfl 29 (rmv ⟨#[]⟩) ?_ rm_size rfl (rm_one _) ?_; exact HZ.out)
  exact decDR_end s w w0 r ⟨#[]⟩ 7 rfl rfl rfl _ rfl _ HZ.out HB0.out HR.out HD.out
set_option maxHeartbeats 1000000 in
set_option maxRecDepth 100000 in
theorem decDR_low (s : ByteArray) (hs : s.size ≤ 9223372036854775807) (hem : (s.toList == []) = false) (h0 : 0 < s.size) (l0 : (0 : Int) < (s.size : Int)) (F : Nat) (hF8 : F < 256) (hF0 : (s[0].toNat : Int) = (F : Int)) (e0 : ((F : Int) / 16 != 4) = false) (l2 : (s.size : Int) < 2) (hd : decR s = (⟨#[]⟩, 5)) (w : World) :
    Calls Try.prog 18 #[.string s] w fun e w' => e = .returned (decRV s) ∧ Below w.heap.size w w' := by
  have HD := Lib.hid hd
  clear hd
  obtain ⟨r, hr⟩ : ∃ r, r = w.heap.size := ⟨_, rfl⟩
  obtain ⟨w0, hw0⟩ : ∃ w0, w0 = w.alloc (.cells #[.string ⟨#[]⟩] 29) := ⟨_, rfl⟩
  have HZ := Lib.hid (show Blk w0 r 29 (rmv ⟨#[]⟩) by rw [hw0, hr]; exact Blk.new _ _ _)
  have HB0 := Lib.hid (show Below w.heap.size w w0 by rw [hw0]; exact (Below.refl _ w).alloc (Nat.le_refl _) _)
  have HR := Lib.hid (show w.heap.size ≤ r by omega)
  have HR2 := Lib.hid hr
  have HW0 := Lib.hid hw0
  clear hr hw0
  go_enter Try.func18, Try.ntmps18
  go_upto_region 1 with fail
  rw [← HW0.out, ← HR2.out]
  go_wp2_with (refine wpList_store_row rfl 29 _ _ rfl r (rmv ⟨#[]⟩) rfl rfl 29 (rmv ⟨#[]⟩) ?_ rm_size rfl (rm_one _) ?_; exact HZ.out)
  exact decDR_end s w w0 r ⟨#[]⟩ 5 rfl rfl rfl _ rfl _ HZ.out HB0.out HR.out HD.out
set_option maxHeartbeats 1000000 in
set_option maxRecDepth 100000 in
theorem decDR_high (s : ByteArray) (hs : s.size ≤ 9223372036854775807) (hem : (s.toList == []) = false) (h0 : 0 < s.size) (l0 : (0 : Int) < (s.size : Int)) (F : Nat) (hF8 : F < 256) (hF0 : (s[0].toNat : Int) = (F : Int)) (e0 : ((F : Int) / 16 != 4) = false) (l2 : ¬ (s.size : Int) < 2) (l3 : (38 : Int) < (s.size : Int)) (hd : decR s = (⟨#[]⟩, 5)) (w : World) :
    Calls Try.prog 18 #[.string s] w fun e w' => e = .returned (decRV s) ∧ Below w.heap.size w w' := by
  have HD := Lib.hid hd
  clear hd
  obtain ⟨r, hr⟩ : ∃ r, r = w.heap.size := ⟨_, rfl⟩
  obtain ⟨w0, hw0⟩ : ∃ w0, w0 = w.alloc (.cells #[.string ⟨#[]⟩] 29) := ⟨_, rfl⟩
  have HZ := Lib.hid (show Blk w0 r 29 (rmv ⟨#[]⟩) by rw [hw0, hr]; exact Blk.new _ _ _)
  have HB0 := Lib.hid (show Below w.heap.size w w0 by rw [hw0]; exact (Below.refl _ w).alloc (Nat.le_refl _) _)
  have HR := Lib.hid (show w.heap.size ≤ r by omega)
  have HR2 := Lib.hid hr
  have HW0 := Lib.hid hw0
  clear hr hw0
  go_enter Try.func18, Try.ntmps18
  go_upto_region 1 with fail
  rw [← HW0.out, ← HR2.out]
  go_wp2_with (refine wpList_store_row rfl 29 _ _ rfl r (rmv ⟨#[]⟩) rfl rfl 29 (rmv ⟨#[]⟩) ?_ rm_size rfl (rm_one _) ?_; exact HZ.out)
  exact decDR_end s w w0 r ⟨#[]⟩ 5 rfl rfl rfl _ rfl _ HZ.out HB0.out HR.out HD.out
set_option maxHeartbeats 1000000 in
set_option maxRecDepth 100000 in
theorem decDR_good (s : ByteArray) (hs : s.size ≤ 9223372036854775807) (hem : (s.toList == []) = false) (h0 : 0 < s.size) (l0 : (0 : Int) < (s.size : Int)) (F : Nat) (hF8 : F < 256) (hF0 : (s[0].toNat : Int) = (F : Int)) (e0 : ((F : Int) / 16 != 4) = false) (l2 : ¬ (s.size : Int) < 2) (l3 : ¬ (38 : Int) < (s.size : Int)) (T : ByteArray) (hT : s.extract 1 s.size = T) (hd : decR s = (T, 0)) (w : World) :
    Calls Try.prog 18 #[.string s] w fun e w' => e = .returned (decRV s) ∧ Below w.heap.size w w' := by
  have HD := Lib.hid hd
  clear hd
  have HT := Lib.hid hT
  have l1 : (1 : Int) ≤ (s.size : Int) := by omega
  clear hT
  obtain ⟨r, hr⟩ : ∃ r, r = w.heap.size := ⟨_, rfl⟩
  obtain ⟨w0, hw0⟩ : ∃ w0, w0 = w.alloc (.cells #[.string ⟨#[]⟩] 29) := ⟨_, rfl⟩
  have HZ := Lib.hid (show Blk w0 r 29 (rmv ⟨#[]⟩) by rw [hw0, hr]; exact Blk.new _ _ _)
  have HB0 := Lib.hid (show Below w.heap.size w w0 by rw [hw0]; exact (Below.refl _ w).alloc (Nat.le_refl _) _)
  have HR := Lib.hid (show w.heap.size ≤ r by omega)
  have HR2 := Lib.hid hr
  have HW0 := Lib.hid hw0
  clear hr hw0
  go_enter Try.func18, Try.ntmps18
  go_upto_region 1 with fail
  rw [← HW0.out, ← HR2.out]
  go_wp2_with (rw [HT.out]; refine wpList_store_row rfl 29 _ _ rfl r (rmv T) rfl rfl 29 (rmv ⟨#[]⟩) ?_ rm_size rfl (rm_one _) ?_; exact HZ.out)
  exact decDR_end s w w0 r T 0 rfl rfl rfl _ rfl _ HZ.out HB0.out HR.out HD.out
theorem DecodeRemoveR_any (s : ByteArray) (hs : s.size ≤ 9223372036854775807) (w : World) :
    Calls Try.prog 18 #[.string s] w fun e w' => e = .returned (decRV s) ∧ Below w.heap.size w w' := by
  by_cases h0 : s.size = 0
  · exact decDR_short s hs (list_nil s h0) (decR_short s h0) w
  have hp : 0 < s.size := by omega
  have hem := list_some s h0
  have hg := byteAt_get s 0 hp
  have hF : (s[0].toNat : Int) = ((byteAt s 0 : Nat) : Int) := by rw [hg]
  have hF8 := byteAt_lt s 0
  by_cases hk : byteAt s 0 / 16 = 4
  · have e0 : (((byteAt s 0 : Nat) : Int) / 16 != 4) = false := by rw [bne_eq_false_iff_eq]; omega
    by_cases l2 : (s.size : Int) < 2
    · exact decDR_low s hs hem hp (by omega) _ hF8 hF e0 l2 (decR_f s h0 hk (by omega)) w
    by_cases l3 : (38 : Int) < (s.size : Int)
    · exact decDR_high s hs hem hp (by omega) _ hF8 hF e0 l2 l3 (decR_f s h0 hk (by omega)) w
    · exact decDR_good s hs hem hp (by omega) _ hF8 hF e0 l2 l3 _ (txt_back s.data.toList 1) (decR_t s hk (by omega)) w
  · have e0 : (((byteAt s 0 : Nat) : Int) / 16 != 4) = true := by rw [bne_iff_ne]; omega
    exact decDR_kind s hs hem hp (by omega) _ hF8 hF e0 (decR_kind s h0 hk) w
end Go.Proofs.Ytcofdiamlmlhfaa
