/-
  The document's own Decode of layer 10 (package plaitref10), and its tail, each by its walk.
-/
import Derived.Test.YthnokkcpmikajaaDoorJoinRefs
import Derived.Test.YthnokkcpmikajaaDoorJoinDec
namespace Go.Proofs.YthnokkcpmikajaaDoor
open Go.ChangeShapes Go.WideShapes Go.ChangeAt Go.RowKit
set_option linter.unusedVariables false

theorem Num_t (b : Nat) (s : ByteArray) (k m : Nat) (hm : m ≤ 8) (w : World) (hs : s.size ≤ 9223372036854775807) (hk : k + m ≤ s.size) (h : Ref w b s k false) :
    Calls Tryd.prog 25 #[.pointer (some ⟨b, 0, none⟩), .int .i64 (m : Int)] w fun e w' => e = .returned (.int .u64 (num s k m : Int)) ∧ MovedR w w' b s (k + m) false := by
  have hf : fits s k false (m : Int) = true := by unfold fits; simp; omega
  have q := Num_ref b s k false m hm w hs (by omega) h
  rw [numO_t hf, posO_t hf, brO_t hf] at q
  exact q
theorem conv_u64_u32 (u : Nat) (h : u ≤ 4294967295) (w : World) : (convert 54 22 (.int .u64 (u : Int))).run Tryd.prog w = .ok (.int .u32 (u : Int)) w := by
  rw [run_convert_int w 54 22 .u64 _ (by kernel_rfl) (by kernel_rfl), show Tryd.prog.intKind 22 = .u32 by kernel_rfl, IntKind.wrap_u32]
  congr 2; omega
theorem u32_small (u : Nat) (h : u ≤ 4294967295) : (u : Int) % 4294967296 = (u : Int) := by omega
set_option maxRecDepth 100000 in
theorem tail_ref (s : ByteArray) (h14 : s.size = 14) (w : World) :
    Calls Tryd.prog 26 #[.string s] w fun e w' => e = .returned (.int .u32 (num s 10 4 : Int)) ∧ Below w.heap.size w w' := by
  have e14 : (s.size : Int) = 14 := by omega
  have HS := Lib.hid h14
  clear h14
  obtain ⟨w0, hw0⟩ : ∃ w0, w0 = w.alloc (.cells #[.string s, .int .i64 10, .bool false] 65) := ⟨_, rfl⟩
  have HC := Lib.hid (show Ref w0 w.heap.size s 10 false by rw [hw0]; exact Blk.new _ _ _)
  have HB := Lib.hid (show Below w.heap.size w w0 by rw [hw0]; exact (Below.refl _ w).alloc (Nat.le_refl _) _)
  have HW := Lib.hid hw0
  clear hw0
  go_enter Tryd.func26, Tryd.ntmps26
  go_wp2_with fail
  rw [← HW.out]
  refine (Num_t w.heap.size s 10 4 (by decide) w0 (by have := HS.out; omega) (by have := HS.out; omega) HC.out).mono ?_
  rintro e W ⟨rfl, m⟩
  have HBZ := Lib.hid (HB.out.trans (below_of_only m.1 (Nat.le_refl _) HB.out.size))
  obtain ⟨n, hn⟩ : ∃ n, n = num s 10 4 := ⟨_, rfl⟩
  have hn4 := num_le_4 s 10
  rw [← hn] at hn4 ⊢
  have e4 := u32_small n hn4
  have HN := Lib.hid hn
  clear m hn hn4
  go_wp2_with fail
  go_ret; exact ⟨by rw [← HN.out]; rfl, HBZ.out⟩

theorem byte_odd : ∀ c : Fin 256, (((c.val : Nat) : Int) % 2 == 1) = decide (c.val % 2 = 1) := by decide +kernel
/-- Where the document's Decode stands. -/
structure Rr (w W : World) (r c : Nat) (s : ByteArray) (k : Nat) : Prop where
  hr : Blk W r 24 (jnv Jn.zero)
  cur : Ref W c s k false
  hb : Below w.heap.size w W
  rc : r < c
  wr : w.heap.size = r
theorem Rr.move {w W W' : World} {r c : Nat} {s : ByteArray} {k k' : Nat} (h : Rr w W r c s k) (m : MovedR W W' c s k' false) : Rr w W' r c s k' :=
  ⟨h.hr.grown m.1 (by have := h.rc; simp; omega), m.2, h.hb.trans (below_of_only m.1 (by have := h.rc; have := h.wr; omega) h.hb.size), h.rc, h.wr⟩
theorem decR_end (s : ByteArray) (w W : World) (r : Nat) (x : Jn) (z : Int) {a : Act} (ht : a.tmps.getD 2 undef = .pointer (some ⟨r, 0, none⟩)) (hz : a.tmps.getD 3 undef = .int .i64 z) (hd : a.defers = []) (cs : Array Value) (hc : cs = jnv x) (old : Array Value) (hr : Blk W r 24 old) (hb : Below w.heap.size w W) (hwr : w.heap.size ≤ r) (hq : decJ s = (x, z)) :
    bodyPost Tryd.prog Tryd.f15 (fun e w' => e = .returned (decV s) ∧ Below w.heap.size w w') .ret a (W.setRow r cs) := by
  subst hc
  have h := results_row_tmp (fn := Tryd.f15) rfl a.tmps (W.setRow r (jnv x)) r 24 (jnv x) (0, 0) _ ht (setRow_heap _ _ _ _ _ _ hr) Tryd.underlying24 rfl jn_size
  rw [hz] at h
  exact bodyPost_ret h hd ⟨by rw [decV_eq s x z hq], below_setRow hb hwr _⟩
theorem held_skip {P : Program} {ops : Array Oper} {S : World → Prop} {Q : Exit → Act → World → Prop} {md : Region.Mode} {fuel : Nat} {listed : Array Bool} {a : Act} {w : World} (i : Nat) {o : Oper} {w' : World} (hi : ops[i]? = some o) (hr : Region.ready md ops listed = [i]) (hw : Region.wanted o (yielded ops a.tmps) = true)
    (he : (execOp a.eval o).run P w = .ok .skip w') (hS : S w') (h : wpAnyH P md ops Q S fuel (listed.setIfInBounds i true) (a.put o.dst undef) w') : wpAnyH P md ops Q S (fuel + 1) listed a w := by
  refine held_op hi hr hw ?_
  unfold Oper.wp
  rw [he]
  exact ⟨hS, h⟩
set_option maxHeartbeats 1000000 in
set_option maxRecDepth 100000 in
theorem DecodeR_short (s : ByteArray) (h0 : s.size = 0) (w : World) :
    Calls Tryd.prog 15 #[.string s] w fun e w' => e = .returned (decV s) ∧ Below w.heap.size w w' := by
  obtain ⟨r, hr⟩ : ∃ r, r = w.heap.size := ⟨_, rfl⟩
  obtain ⟨w0, hw0⟩ : ∃ w0, w0 = w.alloc (.cells #[.int .i64 0, .bool false, .int .i64 0, .int .u32 0, .int .u32 0, .string ⟨#[]⟩] 24) := ⟨_, rfl⟩
  have HZ := Lib.hid (show Blk w0 r 24 (jnv Jn.zero) by rw [hw0, hr]; exact Blk.new _ _ _)
  have HB0 := Lib.hid (show Below w.heap.size w w0 by rw [hw0]; exact (Below.refl _ w).alloc (Nat.le_refl _) _)
  have HR := Lib.hid hr
  have HW0 := Lib.hid hw0
  clear hr hw0
  have e0 : s.toList = [] := by rw [ByteArray.toList_eq]; exact List.eq_nil_of_length_eq_zero (by rw [len_data]; exact h0)
  have e0' : s.toList.isEmpty = true := by rw [e0]; rfl
  have HD := Lib.hid (decJ_short s h0)
  clear h0
  go_enter Tryd.func15, Tryd.ntmps15
  go_upto_region 1 with fail
  rw [← HW0.out, ← HR.out]
  clear HW0
  go_wp2_with (refine wpList_store_row rfl 24 _ _ rfl r (jnv Jn.zero) rfl rfl 24 (jnv Jn.zero) ?_ jn_size rfl (jn_one _) ?_; exact HZ.out)
  exact decR_end s w w0 r Jn.zero 4 rfl rfl rfl _ rfl _ HZ.out HB0.out (Nat.le_of_eq HR.out.symm) HD.out
set_option maxHeartbeats 1000000 in
set_option maxRecDepth 100000 in
theorem DecodeR_kind (s : ByteArray) (h0 : s.size ≠ 0) (hk : byteAt s 0 / 16 ≠ 1) (w : World) :
    Calls Tryd.prog 15 #[.string s] w fun e w' => e = .returned (decV s) ∧ Below w.heap.size w w' := by
  obtain ⟨r, hr⟩ : ∃ r, r = w.heap.size := ⟨_, rfl⟩
  obtain ⟨w0, hw0⟩ : ∃ w0, w0 = w.alloc (.cells #[.int .i64 0, .bool false, .int .i64 0, .int .u32 0, .int .u32 0, .string ⟨#[]⟩] 24) := ⟨_, rfl⟩
  have HZ := Lib.hid (show Blk w0 r 24 (jnv Jn.zero) by rw [hw0, hr]; exact Blk.new _ _ _)
  have HB0 := Lib.hid (show Below w.heap.size w w0 by rw [hw0]; exact (Below.refl _ w).alloc (Nat.le_refl _) _)
  have HR := Lib.hid hr
  have HW0 := Lib.hid hw0
  clear hr hw0
  have hlt : 0 < s.size := by omega
  have e0 : ¬ s.toList = [] := fun q => by have : s.data.toList.length = 0 := by rw [← ByteArray.toList_eq, q]; rfl
                                           rw [len_data] at this; omega
  have e0' : s.toList.isEmpty = false := by simpa using e0
  have l0 : (0 : Int) < (s.size : Int) := by omega
  have hg := byteAt_get s 0 hlt
  have hb8 := byteAt_lt s 0
  have e1 : ((s[0].toNat : Int) / 16 % 256 != 1) = true := by rw [bne_iff_ne]; omega
  have HD := Lib.hid (decJ_kind s h0 hk)
  clear hk hg h0 hb8
  go_enter Tryd.func15, Tryd.ntmps15
  go_upto_region 1 with fail
  rw [← HW0.out, ← HR.out]
  clear HW0
  go_wp2_with (refine wpList_store_row rfl 24 _ _ rfl r (jnv Jn.zero) rfl rfl 24 (jnv Jn.zero) ?_ jn_size rfl (jn_one _) ?_; exact HZ.out)
  exact decR_end s w w0 r Jn.zero 7 rfl rfl rfl _ rfl _ HZ.out HB0.out (Nat.le_of_eq HR.out.symm) HD.out
set_option maxHeartbeats 1000000 in
set_option maxRecDepth 100000 in
theorem DecodeR_10 (s : ByteArray) (hs : s.size ≤ 9223372036854775807) (h0 : s.size ≠ 0) (hk : byteAt s 0 / 16 = 1) (HSZ : s.size = 10) (w : World) :
    Calls Tryd.prog 15 #[.string s] w fun e w' => e = .returned (decV s) ∧ Below w.heap.size w w' := by
  obtain ⟨r, hr⟩ : ∃ r, r = w.heap.size := ⟨_, rfl⟩
  obtain ⟨w0, hw0⟩ : ∃ w0, w0 = w.alloc (.cells #[.int .i64 0, .bool false, .int .i64 0, .int .u32 0, .int .u32 0, .string ⟨#[]⟩] 24) := ⟨_, rfl⟩
  have HZ := Lib.hid (show Blk w0 r 24 (jnv Jn.zero) by rw [hw0, hr]; exact Blk.new _ _ _)
  have HB0 := Lib.hid (show Below w.heap.size w w0 by rw [hw0]; exact (Below.refl _ w).alloc (Nat.le_refl _) _)
  have HR := Lib.hid hr
  have HW0 := Lib.hid hw0
  clear hr hw0
  have hlt : 0 < s.size := by omega
  have e0 : ¬ s.toList = [] := fun q => by have : s.data.toList.length = 0 := by rw [← ByteArray.toList_eq, q]; rfl
                                           rw [len_data] at this; omega
  have e0' : s.toList.isEmpty = false := by simpa using e0
  have l0 : (0 : Int) < (s.size : Int) := by omega
  have hg := byteAt_get s 0 hlt
  have hb8 := byteAt_lt s 0
  have e1 : ((s[0].toNat : Int) / 16 % 256 != 1) = false := by rw [bne_eq_false_iff_eq]; omega
  obtain ⟨B, hB⟩ : ∃ B, B = decide (byteAt s 0 % 2 = 1) := ⟨_, rfl⟩
  have e2 : ((s[0].toNat : Int) % 2 == 1) = B := by rw [hB, hg]; exact byte_odd ⟨s[0].toNat, by rw [← hg]; exact hb8⟩
  have e2' : ((s[0].toNat : Int) % 2 % 256 == 1) = B := by rw [← e2]; congr 1; omega
  have HS := Lib.hid HSZ
  have e10 : ((s.size : Int) == 10) = true := by rw [beq_iff_eq]; omega
  clear HSZ
  obtain ⟨c, hc⟩ : ∃ c, c = w0.heap.size := ⟨_, rfl⟩
  obtain ⟨w1, hw1⟩ : ∃ w1, w1 = w0.alloc (.cells #[.string s, .int .i64 0, .bool false] 65) := ⟨_, rfl⟩
  have HD1 := Lib.hid (show Rr w w1 r c s 0 from ⟨by rw [hw1]; exact HZ.out.alloc _, by rw [hw1, hc]; exact Blk.new _ _ _, by rw [hw1]; exact HB0.out.alloc HB0.out.size _, by rw [hc]; exact HZ.out.lt, HR.out.symm⟩)
  have HC := Lib.hid hc
  have HW1 := Lib.hid hw1
  have HN := Lib.hid h0
  have HK := Lib.hid hk
  have HB := Lib.hid hB
  clear hk hg h0 hb8 hc hw1 hB
  go_enter Tryd.func15, Tryd.ntmps15
  go_upto_region 1 with fail
  rw [← HW0.out, ← HR.out]
  clear HW0
  go_wp2_with fail
  rw [← HW1.out, ← HC.out]
  refine (Take_ref_t c s 0 1 w1 hs (by omega) HD1.out.cur).mono ?_
  rintro e W2 ⟨rfl, m⟩
  have HD2 := Lib.hid (HD1.out.move m)
  clear m HD1 HW1 HC HZ HB0
  go_wp2_with fail
  refine (Num_t c s 1 1 (by decide) W2 hs (by have := HS.out; omega) HD2.out.cur).mono ?_
  rintro e W3 ⟨rfl, m⟩
  have HD3 := Lib.hid (HD2.out.move m)
  obtain ⟨G, hG⟩ : ∃ G, G = byteAt s 1 := ⟨_, rfl⟩
  have hG8 := byteAt_lt s 1
  rw [num_1]
  rw [← hG] at hG8 ⊢
  have HG := Lib.hid hG
  have eg : wrap64 (G : Int) = (G : Int) := wrap_byte G hG8
  clear m HD2 hG hG8
  go_wp2_with fail
  refine (Num_t c s 2 4 (by decide) W3 hs (by have := HS.out; omega) HD3.out.cur).mono ?_
  rintro e W4 ⟨rfl, m⟩
  have HD4 := Lib.hid (HD3.out.move m)
  obtain ⟨n1, hn1⟩ : ∃ n, n = num s 2 4 := ⟨_, rfl⟩
  have l1 := num_le_4 s 2
  rw [← hn1] at l1 ⊢
  have HN1 := Lib.hid hn1
  have u1 := u32_small n1 l1
  clear m HD3 hn1 l1
  go_wp2_with fail
  refine (Num_t c s 6 4 (by decide) W4 hs (by have := HS.out; omega) HD4.out.cur).mono ?_
  rintro e W5 ⟨rfl, m⟩
  have HD5 := Lib.hid (HD4.out.move m)
  obtain ⟨n2, hn2⟩ : ∃ n, n = num s 6 4 := ⟨_, rfl⟩
  have l2 := num_le_4 s 6
  rw [← hn2] at l2 ⊢
  have HN2 := Lib.hid hn2
  have u2 := u32_small n2 l2
  clear m HD4 hn2 l2
  have hgo : gotOf s = some (got0 (byteAt s 0) (byteAt s 1) (after2 s)) := by unfold gotOf; rw [HS.out]; rfl
  have HD := Lib.hid (decJ_some s _ HN.out HK.out hgo)
  clear hgo
  go_wp2_with (refine wpList_store_row rfl 24 _ _ rfl r #[.int .i64 0, .bool B, .int .i64 (G : Int), .int .u32 (n1 : Int), .int .u32 (n2 : Int), .string ⟨#[]⟩] rfl rfl 24 (jnv Jn.zero) ?_ jn_size rfl (by simp [Value.oneCell']) ?_; exact HD5.out.hr)
  exact decR_end s w W5 r _ 0 rfl rfl rfl _ (by simp only [jnv, got0, num_after, HN1.out, HN2.out, HG.out, HB.out]) _ HD5.out.hr HD5.out.hb (Nat.le_of_eq HR.out.symm) HD.out
theorem ex_str_index (s : ByteArray) (k : Nat) (hk : k < s.size) {ρ : Operand → Value} {o : Oper} (x : Operand) (ho : o.op = .index 9 x (.const (.int .i64 (k : Int)))) (hx : ρ x = .string s ∧ ρ (.const (.int .i64 (k : Int))) = .int .i64 (k : Int)) (G : Nat) (hG : G = s[k].toNat) (w : World) : (execOp ρ o).run Tryd.prog w = .ok (.value (.int .u8 (G : Int))) w := by
  subst hG
  have l1 : (k : Int) < (s.size : Int) := by omega
  unfold execOp
  rw [ho]
  simp [hx.1, hx.2, go_sem, l1]
theorem ex_str_cut (s : ByteArray) (a b : Nat) (hb : a ≤ b ∧ b ≤ s.size) {ρ : Operand → Value} {o : Oper} (x : Operand) (ho : o.op = .slice 9 x (some (.const (.int .i64 (a : Int)))) (some (.const (.int .i64 (b : Int)))) none) (hx : ρ x = .string s ∧ ρ (.const (.int .i64 (a : Int))) = .int .i64 (a : Int) ∧ ρ (.const (.int .i64 (b : Int))) = .int .i64 (b : Int)) (M : ByteArray) (hM : M = s.extract a b) (w : World) : (execOp ρ o).run Tryd.prog w = .ok (.value (.string M)) w := by
  subst hM
  have l1 : (a : Int) ≤ (b : Int) := by omega
  have l2 : (b : Int) ≤ (s.size : Int) := by omega
  unfold execOp
  rw [ho]
  simp [hx.1, hx.2.1, hx.2.2, go_sem, l1, l2]
theorem conv_u8_i64 (u : Nat) (h : u < 256) (w : World) : (convert 5 3 (.int .u8 (u : Int))).run Tryd.prog w = .ok (.int .i64 (u : Int)) w := by
  rw [run_convert_int w 5 3 .u8 _ (by kernel_rfl) (by kernel_rfl), show Tryd.prog.intKind 3 = .i64 by kernel_rfl, IntKind.wrap_i64, show ((u : Int) + 9223372036854775808) % 18446744073709551616 - 9223372036854775808 = (u : Int) by omega]
set_option maxHeartbeats 1000000 in
set_option maxRecDepth 100000 in
theorem DecodeR_14 (s : ByteArray) (hs : s.size ≤ 9223372036854775807) (h0 : s.size ≠ 0) (hk : byteAt s 0 / 16 = 1) (HSZ : s.size = 14) (w : World) :
    Calls Tryd.prog 15 #[.string s] w fun e w' => e = .returned (decV s) ∧ Below w.heap.size w w' := by
  obtain ⟨r, hr⟩ : ∃ r, r = w.heap.size := ⟨_, rfl⟩
  obtain ⟨w0, hw0⟩ : ∃ w0, w0 = w.alloc (.cells #[.int .i64 0, .bool false, .int .i64 0, .int .u32 0, .int .u32 0, .string ⟨#[]⟩] 24) := ⟨_, rfl⟩
  have HZ := Lib.hid (show Blk w0 r 24 (jnv Jn.zero) by rw [hw0, hr]; exact Blk.new _ _ _)
  have HB0 := Lib.hid (show Below w.heap.size w w0 by rw [hw0]; exact (Below.refl _ w).alloc (Nat.le_refl _) _)
  have HR := Lib.hid hr
  have HW0 := Lib.hid hw0
  clear hr hw0
  have hlt : 0 < s.size := by omega
  have e0 : ¬ s.toList = [] := fun q => by have : s.data.toList.length = 0 := by rw [← ByteArray.toList_eq, q]; rfl
                                           rw [len_data] at this; omega
  have e0' : s.toList.isEmpty = false := by simpa using e0
  have l0 : (0 : Int) < (s.size : Int) := by omega
  have hg := byteAt_get s 0 hlt
  have hb8 := byteAt_lt s 0
  have e1 : ((s[0].toNat : Int) / 16 % 256 != 1) = false := by rw [bne_eq_false_iff_eq]; omega
  obtain ⟨B, hB⟩ : ∃ B, B = decide (byteAt s 0 % 2 = 1) := ⟨_, rfl⟩
  have e2 : ((s[0].toNat : Int) % 2 == 1) = B := by rw [hB, hg]; exact byte_odd ⟨s[0].toNat, by rw [← hg]; exact hb8⟩
  have e2' : ((s[0].toNat : Int) % 2 % 256 == 1) = B := by rw [← e2]; congr 1; omega
  have HS := Lib.hid HSZ
  have e10 : ((s.size : Int) == 10) = false := by rw [beq_eq_false_iff_ne]; omega
  have e14 : ((s.size : Int) == 14) = true := by rw [beq_iff_eq]; omega
  have hsz1 : 1 < s.size := by omega
  have HG1 := Lib.hid (byteAt_get s 1 hsz1)
  clear HSZ
  obtain ⟨c, hc⟩ : ∃ c, c = w0.heap.size := ⟨_, rfl⟩
  obtain ⟨w1, hw1⟩ : ∃ w1, w1 = w0.alloc (.cells #[.string s, .int .i64 0, .bool false] 65) := ⟨_, rfl⟩
  have HD1 := Lib.hid (show Rr w w1 r c s 0 from ⟨by rw [hw1]; exact HZ.out.alloc _, by rw [hw1, hc]; exact Blk.new _ _ _, by rw [hw1]; exact HB0.out.alloc HB0.out.size _, by rw [hc]; exact HZ.out.lt, HR.out.symm⟩)
  have HC := Lib.hid hc
  have HW1 := Lib.hid hw1
  have HN := Lib.hid h0
  have HK := Lib.hid hk
  have HB := Lib.hid hB
  clear hk hg h0 hb8 hc hw1 hB
  go_enter Tryd.func15, Tryd.ntmps15
  go_upto_region 1 with fail
  rw [← HW0.out, ← HR.out]
  clear HW0
  go_wp2_with fail
  rw [← HW1.out, ← HC.out]
  refine (Take_ref_t c s 0 1 w1 hs (by omega) HD1.out.cur).mono ?_
  rintro e W2 ⟨rfl, m⟩
  have HD2 := Lib.hid (HD1.out.move m)
  clear m HD1 HW1 HC HZ HB0
  go_upto_region 15 with fail
  obtain ⟨M, hM⟩ : ∃ M, M = s.extract 2 (2 + 8) := ⟨_, rfl⟩
  obtain ⟨n2, hn2⟩ : ∃ n, n = num s 10 4 := ⟨_, rfl⟩
  obtain ⟨G, hG⟩ : ∃ G, G = byteAt s 1 := ⟨_, rfl⟩
  have hG8 := byteAt_lt s 1
  rw [← hG] at hG8
  have hgo : gotOf s = some (got1 (byteAt s 0) (byteAt s 1) (after2 s)) := by unfold gotOf; rw [HS.out]; rfl
  have HD := Lib.hid (decJ_some s _ HN.out HK.out hgo)
  have HM := Lib.hid hM
  have HN2 := Lib.hid hn2
  have HG := Lib.hid hG
  have D0 : Below W2.heap.size W2 W2.drew := (Below.refl _ _).drew
  refine held_start (fun _ => True) (by kernel_rfl) (n := 11) rfl ?_
  obtain ⟨W0, hW0⟩ : ∃ W0, W0 = W2.drew := ⟨_, rfl⟩
  rw [← hW0] at D0 ⊢
  clear hW0
  refine held_free 0 (.bool B) rfl (by kernel_rfl) (by kernel_rfl) (by kernel_rfl) (by kernel_rfl) trivial (fun _ _ => by kernel_rfl) ?_
  refine held_free 1 (.string s) rfl (by kernel_rfl) (by kernel_rfl) (by kernel_rfl) (by kernel_rfl) trivial (fun _ _ => by kernel_rfl) ?_
  refine held_free 2 (.int .u8 (G : Int)) rfl (by kernel_rfl) (by kernel_rfl) (by kernel_rfl) (by kernel_rfl) trivial (fun W _ => ex_str_index s 1 hsz1 (.tmp 47) (by kernel_rfl) ⟨by kernel_rfl, by kernel_rfl⟩ G (by rw [HG.out, HG1.out]) W) ?_
  refine held_free 3 (.int .i64 (G : Int)) rfl (by kernel_rfl) (by kernel_rfl) (by kernel_rfl) (by kernel_rfl) trivial (fun W _ => ex_convert_to (v := .int .u8 (G : Int)) 5 3 (.tmp 48) (by kernel_rfl) (by kernel_rfl) (conv_u8_i64 G hG8 W)) ?_
  refine held_free 4 (.string s) rfl (by kernel_rfl) (by kernel_rfl) (by kernel_rfl) (by kernel_rfl) trivial (fun _ _ => by kernel_rfl) ?_
  refine held_free 5 (.string M) rfl (by kernel_rfl) (by kernel_rfl) (by kernel_rfl) (by kernel_rfl) trivial (fun W _ => ex_str_cut s 2 10 (by have := HS.out; omega) (.tmp 50) (by kernel_rfl) ⟨by kernel_rfl, by kernel_rfl, by kernel_rfl⟩ M HM.out W) ?_
  refine held_free 6 (.string s) rfl (by kernel_rfl) (by kernel_rfl) (by kernel_rfl) (by kernel_rfl) trivial (fun _ _ => by kernel_rfl) ?_
  refine held_call 7 rfl (by kernel_rfl) (by kernel_rfl) (by kernel_rfl) (answer (tail_ref s HS.out _) (show Value.int .u32 (num s 10 4 : Int) = .int .u32 (n2 : Int) by rw [HN2.out])) (fun _ _ => trivial) ?_
  intro W1 h1
  have D1 := bel_in D0 h1
  have HZ1 := Lib.hid (HD2.out.hr.below D1 HD2.out.hr.lt)
  have HB1 := Lib.hid (HD2.out.hb.trans (D1.mono HD2.out.hb.size))
  clear h1 D0
  refine held_free 8 (.agg #[.int .i64 1, .bool B, .int .i64 (G : Int), .int .u32 0, .int .u32 (n2 : Int), .string M]) rfl (by kernel_rfl) (by kernel_rfl) (by kernel_rfl) (by kernel_rfl) trivial (fun _ _ => by kernel_rfl) ?_
  refine held_skip 9 rfl (by kernel_rfl) (by kernel_rfl) (ex_store_row 24 (.tmp 2) (.tmp 54) (by kernel_rfl) r #[.int .i64 1, .bool B, .int .i64 (G : Int), .int .u32 0, .int .u32 (n2 : Int), .string M] (by kernel_rfl) (by kernel_rfl) 24 (jnv Jn.zero) HZ1.out jn_size rfl (by simp [Value.oneCell'])) trivial ?_
  refine held_free 10 (.int .i64 0) rfl (by kernel_rfl) (by kernel_rfl) (by kernel_rfl) (by kernel_rfl) trivial (fun _ _ => by kernel_rfl) ?_
  refine held_end (by kernel_rfl) ?_
  go_wp2_with fail
  exact decR_end s w W1 r _ 0 (by kernel_rfl) (by kernel_rfl) (by kernel_rfl) _ (by simp only [jnv, got1, num_after, ← cut_after, HM.out, HN2.out, HG.out, HB.out]; rfl) _ HZ1.out HB1.out (Nat.le_of_eq HR.out.symm) HD.out
set_option maxHeartbeats 1000000 in
set_option maxRecDepth 100000 in
theorem DecodeR_22 (s : ByteArray) (hs : s.size ≤ 9223372036854775807) (h0 : s.size ≠ 0) (hk : byteAt s 0 / 16 = 1) (HSZ : s.size = 22) (w : World) :
    Calls Tryd.prog 15 #[.string s] w fun e w' => e = .returned (decV s) ∧ Below w.heap.size w w' := by
  obtain ⟨r, hr⟩ : ∃ r, r = w.heap.size := ⟨_, rfl⟩
  obtain ⟨w0, hw0⟩ : ∃ w0, w0 = w.alloc (.cells #[.int .i64 0, .bool false, .int .i64 0, .int .u32 0, .int .u32 0, .string ⟨#[]⟩] 24) := ⟨_, rfl⟩
  have HZ := Lib.hid (show Blk w0 r 24 (jnv Jn.zero) by rw [hw0, hr]; exact Blk.new _ _ _)
  have HB0 := Lib.hid (show Below w.heap.size w w0 by rw [hw0]; exact (Below.refl _ w).alloc (Nat.le_refl _) _)
  have HR := Lib.hid hr
  have HW0 := Lib.hid hw0
  clear hr hw0
  have hlt : 0 < s.size := by omega
  have e0 : ¬ s.toList = [] := fun q => by have : s.data.toList.length = 0 := by rw [← ByteArray.toList_eq, q]; rfl
                                           rw [len_data] at this; omega
  have e0' : s.toList.isEmpty = false := by simpa using e0
  have l0 : (0 : Int) < (s.size : Int) := by omega
  have hg := byteAt_get s 0 hlt
  have hb8 := byteAt_lt s 0
  have e1 : ((s[0].toNat : Int) / 16 % 256 != 1) = false := by rw [bne_eq_false_iff_eq]; omega
  obtain ⟨B, hB⟩ : ∃ B, B = decide (byteAt s 0 % 2 = 1) := ⟨_, rfl⟩
  have e2 : ((s[0].toNat : Int) % 2 == 1) = B := by rw [hB, hg]; exact byte_odd ⟨s[0].toNat, by rw [← hg]; exact hb8⟩
  have e2' : ((s[0].toNat : Int) % 2 % 256 == 1) = B := by rw [← e2]; congr 1; omega
  have HS := Lib.hid HSZ
  have e10 : ((s.size : Int) == 10) = false := by rw [beq_eq_false_iff_ne]; omega
  have e14 : ((s.size : Int) == 14) = false := by rw [beq_eq_false_iff_ne]; omega
  have e22 : ((s.size : Int) == 22) = true := by rw [beq_iff_eq]; omega
  have l2 : (2 : Int) ≤ (s.size : Int) := by omega
  have l3 : (2 : Nat) ≤ s.size := by omega
  clear HSZ
  obtain ⟨c, hc⟩ : ∃ c, c = w0.heap.size := ⟨_, rfl⟩
  obtain ⟨w1, hw1⟩ : ∃ w1, w1 = w0.alloc (.cells #[.string s, .int .i64 0, .bool false] 65) := ⟨_, rfl⟩
  have HD1 := Lib.hid (show Rr w w1 r c s 0 from ⟨by rw [hw1]; exact HZ.out.alloc _, by rw [hw1, hc]; exact Blk.new _ _ _, by rw [hw1]; exact HB0.out.alloc HB0.out.size _, by rw [hc]; exact HZ.out.lt, HR.out.symm⟩)
  have HC := Lib.hid hc
  have HW1 := Lib.hid hw1
  have HN := Lib.hid h0
  have HK := Lib.hid hk
  have HB := Lib.hid hB
  clear hk hg h0 hb8 hc hw1 hB
  go_enter Tryd.func15, Tryd.ntmps15
  go_upto_region 1 with fail
  rw [← HW0.out, ← HR.out]
  clear HW0
  go_wp2_with fail
  rw [← HW1.out, ← HC.out]
  refine (Take_ref_t c s 0 1 w1 hs (by omega) HD1.out.cur).mono ?_
  rintro e W2 ⟨rfl, m⟩
  have HD2 := Lib.hid (HD1.out.move m)
  clear m HD1 HW1 HC HZ HB0
  have hgo : gotOf s = some (got2 (after2 s)) := by unfold gotOf; rw [HS.out]; rfl
  have HD := Lib.hid (decJ_some s _ HN.out HK.out hgo)
  clear hgo
  go_wp2_with (refine wpList_store_row rfl 24 _ _ rfl r #[.int .i64 2, .bool false, .int .i64 0, .int .u32 0, .int .u32 0, .string (s.extract 2 s.size)] rfl rfl 24 (jnv Jn.zero) ?_ jn_size rfl (by simp [Value.oneCell']) ?_; exact HD2.out.hr)
  exact decR_end s w W2 r _ 0 rfl rfl rfl _ (by rw [show s.size = 2 + 20 by have := HS.out; omega, cut_after, List.take_of_length_le (by have := HS.out; simp [after2]; omega)]; rfl) _ HD2.out.hr HD2.out.hb (Nat.le_of_eq HR.out.symm) HD.out
set_option maxHeartbeats 1000000 in
set_option maxRecDepth 100000 in
theorem DecodeR_no (s : ByteArray) (hs : s.size ≤ 9223372036854775807) (h0 : s.size ≠ 0) (hk : byteAt s 0 / 16 = 1) (hno : s.size ≠ 10 ∧ s.size ≠ 14 ∧ s.size ≠ 22) (w : World) :
    Calls Tryd.prog 15 #[.string s] w fun e w' => e = .returned (decV s) ∧ Below w.heap.size w w' := by
  obtain ⟨r, hr⟩ : ∃ r, r = w.heap.size := ⟨_, rfl⟩
  obtain ⟨w0, hw0⟩ : ∃ w0, w0 = w.alloc (.cells #[.int .i64 0, .bool false, .int .i64 0, .int .u32 0, .int .u32 0, .string ⟨#[]⟩] 24) := ⟨_, rfl⟩
  have HZ := Lib.hid (show Blk w0 r 24 (jnv Jn.zero) by rw [hw0, hr]; exact Blk.new _ _ _)
  have HB0 := Lib.hid (show Below w.heap.size w w0 by rw [hw0]; exact (Below.refl _ w).alloc (Nat.le_refl _) _)
  have HR := Lib.hid hr
  have HW0 := Lib.hid hw0
  clear hr hw0
  have hlt : 0 < s.size := by omega
  have e0 : ¬ s.toList = [] := fun q => by have : s.data.toList.length = 0 := by rw [← ByteArray.toList_eq, q]; rfl
                                           rw [len_data] at this; omega
  have e0' : s.toList.isEmpty = false := by simpa using e0
  have l0 : (0 : Int) < (s.size : Int) := by omega
  have hg := byteAt_get s 0 hlt
  have hb8 := byteAt_lt s 0
  have e1 : ((s[0].toNat : Int) / 16 % 256 != 1) = false := by rw [bne_eq_false_iff_eq]; omega
  obtain ⟨B, hB⟩ : ∃ B, B = decide (byteAt s 0 % 2 = 1) := ⟨_, rfl⟩
  have e2 : ((s[0].toNat : Int) % 2 == 1) = B := by rw [hB, hg]; exact byte_odd ⟨s[0].toNat, by rw [← hg]; exact hb8⟩
  have e2' : ((s[0].toNat : Int) % 2 % 256 == 1) = B := by rw [← e2]; congr 1; omega
  have HS := Lib.hid hno
  have e10 : ((s.size : Int) == 10) = false := by rw [beq_eq_false_iff_ne]; omega
  have e14 : ((s.size : Int) == 14) = false := by rw [beq_eq_false_iff_ne]; omega
  have e22 : ((s.size : Int) == 22) = false := by rw [beq_eq_false_iff_ne]; omega
  clear hno
  obtain ⟨c, hc⟩ : ∃ c, c = w0.heap.size := ⟨_, rfl⟩
  obtain ⟨w1, hw1⟩ : ∃ w1, w1 = w0.alloc (.cells #[.string s, .int .i64 0, .bool false] 65) := ⟨_, rfl⟩
  have HD1 := Lib.hid (show Rr w w1 r c s 0 from ⟨by rw [hw1]; exact HZ.out.alloc _, by rw [hw1, hc]; exact Blk.new _ _ _, by rw [hw1]; exact HB0.out.alloc HB0.out.size _, by rw [hc]; exact HZ.out.lt, HR.out.symm⟩)
  have HC := Lib.hid hc
  have HW1 := Lib.hid hw1
  have HN := Lib.hid h0
  have HK := Lib.hid hk
  have HB := Lib.hid hB
  clear hk hg h0 hb8 hc hw1 hB
  go_enter Tryd.func15, Tryd.ntmps15
  go_upto_region 1 with fail
  rw [← HW0.out, ← HR.out]
  clear HW0
  go_wp2_with fail
  rw [← HW1.out, ← HC.out]
  refine (Take_ref_t c s 0 1 w1 hs (by omega) HD1.out.cur).mono ?_
  rintro e W2 ⟨rfl, m⟩
  have HD2 := Lib.hid (HD1.out.move m)
  clear m HD1 HW1 HC HZ HB0
  have hgo : gotOf s = none := by unfold gotOf; exact got_none _ _ _ _ HS.out.1 HS.out.2.1 HS.out.2.2
  have HD := Lib.hid (decJ_form s HN.out HK.out hgo)
  clear hgo
  go_wp2_with (refine wpList_store_row rfl 24 _ _ rfl r (jnv Jn.zero) rfl rfl 24 (jnv Jn.zero) ?_ jn_size rfl (jn_one _) ?_; exact HD2.out.hr)
  exact decR_end s w W2 r Jn.zero 5 rfl rfl rfl _ rfl _ HD2.out.hr HD2.out.hb (Nat.le_of_eq HR.out.symm) HD.out
theorem DecodeR_any (s : ByteArray) (hs : s.size ≤ 9223372036854775807) (w : World) :
    Calls Tryd.prog 15 #[.string s] w fun e w' => e = .returned (decV s) ∧ Below w.heap.size w w' := by
  by_cases h0 : s.size = 0
  · exact DecodeR_short s h0 w
  by_cases hk : byteAt s 0 / 16 = 1
  · by_cases h1 : s.size = 10
    · exact DecodeR_10 s hs h0 hk h1 w
    by_cases h2 : s.size = 14
    · exact DecodeR_14 s hs h0 hk h2 w
    by_cases h3 : s.size = 22
    · exact DecodeR_22 s hs h0 hk h3 w
    · exact DecodeR_no s hs h0 hk ⟨h1, h2, h3⟩ w
  · exact DecodeR_kind s h0 hk w
end Go.Proofs.YthnokkcpmikajaaDoor
