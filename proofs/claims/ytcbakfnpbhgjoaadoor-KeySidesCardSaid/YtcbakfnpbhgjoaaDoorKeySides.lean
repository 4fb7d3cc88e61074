/-
  Each end lays the same codes, whoever it is, and they hang on nothing else (statement KeySides, promises P8.1 to P8.4), of all pairs, and other ones, without condition but the tables' own initial values, which the card ties to the program's text.
-/
import Derived.Test.YtcbakfnpbhgjoaaDoorKeyBits
import Derived.Test.YtcbakfnpbhgjoaaDoorHmacSame
namespace Go.Proofs.YtcbakfnpbhgjoaaDoor.keySides
open Go.ChangeShapes Go.WideShapes Go.ChangeAt Go.RowKit
set_option linter.unusedVariables false

/-- A front of a text, 100 bytes at most. -/
theorem front (s : ByteArray) : ∃ (m : Nat) (z : ByteArray), z = s.extract 0 m ∧ z.size = m ∧ (if (100 : Int) < (s.size : Int) then (100 : Int) else (s.size : Int)) = (m : Int) ∧ (m : Int) ≤ s.size ∧ m ≤ 100 := by
  refine ⟨min s.size 100, _, rfl, ?_, ?_, ?_, ?_⟩
  · rw [ByteArray.size_extract]; omega
  · split <;> omega
  · omega
  · omega

theorem ex_intne {ρ : Operand → Value} {o : Oper} {w : World} (k : IntKind) (t u : TypeId) (x y : Operand) (ho : o.op = .binOp .neq t x y u) (a b : Int) (hx : ρ x = .int k a) (hy : ρ y = .int k b) (ht : Tryd.prog.underlying t = some (.int k)) (h : a ≠ b) :
    (execOp ρ o).run Tryd.prog w = .ok (.value (.bool true)) w := by
  unfold execOp
  rw [ho]
  simp [hx, hy, go_sem, h]
theorem stays {P : Program} {f : FuncId} {args : Array Value} {w : World} {v : Value} (h : Calls P f args w fun e w' => e = .returned v ∧ w = w') : Calls P f args w fun e w' => e = .returned v ∧ Below w.heap.size w w' := h.mono fun e w' q => ⟨q.1, q.2 ▸ Below.refl _ _⟩
/-- The blocks that the law's variables lie in: two pairs, and an address. -/
structure Kept (w : World) (gp gq gx : Nat) (PC QC XC : Array Value) (V : World) : Prop where
  p : Blk V gp 30 PC
  q : Blk V gq 30 QC
  x : Blk V gx 38 XC
  bel : Below w.heap.size w V
theorem Kept.below {w V V' : World} {gp gq gx : Nat} {PC QC XC : Array Value} (h : Kept w gp gq gx PC QC XC V) (q : Below V.heap.size V V') : Kept w gp gq gx PC QC XC V' :=
  ⟨Blk.below h.p q (Blk.lt h.p), Blk.below h.q q (Blk.lt h.q), Blk.below h.x q (Blk.lt h.x), h.bel.trans (q.mono h.bel.size)⟩

set_option maxHeartbeats 2000000 in
set_option maxRecDepth 100000 in
theorem walk (f s : Nat) (hf : f ≤ 18446744073709551615) (hs : s ≤ 18446744073709551615) (a b : Nat) (ha : a ≤ 4294967295) (hb : b ≤ 4294967295) (f2 s2 : Nat) (hf2 : f2 ≤ 18446744073709551615) (hs2 : s2 ≤ 18446744073709551615) (a2 b2 : Nat) (ha2 : a2 ≤ 4294967295) (hb2 : b2 ≤ 4294967295)
    (id : Int) (ip : ByteArray) (zip : ip.size ≤ 140737488351232) (h : Bool) (port : Int) (w : World) (ht : Tbl w) :
    Calls Tryd.prog 8 #[.agg #[.int .u64 (f : Int), .int .u64 (s : Int), .int .u32 (a : Int), .int .u32 (b : Int)], .agg #[.int .u64 (f2 : Int), .int .u64 (s2 : Int), .int .u32 (a2 : Int), .int .u32 (b2 : Int)], adr id ip h port] w fun e w' => e = .returned (.bool true) ∧ Below w.heap.size w w' := by
  obtain ⟨m0, F, hF, nF, mF, lF, uF⟩ := front ip
  obtain ⟨i, hi⟩ : ∃ i : Nat, id % 256 = (i : Int) := ⟨(id % 256).toNat, by omega⟩
  obtain ⟨p, hp⟩ : ∃ p : Nat, (if h then port % 65536 else 0) = (p : Int) := ⟨(if h then port % 65536 else 0).toNat, by cases h <;> simp <;> omega⟩
  obtain ⟨U, hU⟩ : ∃ U, U = txt ((macn f s a b).take 20) := ⟨_, rfl⟩
  have hUs : U.size = 20 := by rw [hU]; simp [ByteArray.size, macn_length]
  obtain ⟨T, hT⟩ : ∃ T, T = txt (told f s i F.data.toList p) := ⟨_, rfl⟩
  obtain ⟨M2, hM2⟩ : ∃ M, M = byv (macn f2 s2 a2 b2) := ⟨_, rfl⟩
  obtain ⟨T2, hT2⟩ : ∃ T, T = txt (told f2 s2 i F.data.toList p) := ⟨_, rfl⟩
  have fs : F.size ≤ 100 := by omega
  have HUU := Lib.hid hU
  have HTT := Lib.hid hT
  have HM2' := Lib.hid hM2
  have HTT2 := Lib.hid hT2
  have HI := Lib.hid hi
  have HP := Lib.hid hp
  obtain ⟨w0, hw0⟩ : ∃ w0, w0 = w.alloc (.cells #[.int .u64 (f : Int), .int .u64 (s : Int), .int .u32 (a : Int), .int .u32 (b : Int)] 30) := ⟨_, rfl⟩
  have s0 : w0.heap.size = w.heap.size + 1 := by rw [hw0]; exact World.size_alloc _ _
  have n0 : Blk w0 w.heap.size 30 #[.int .u64 (f : Int), .int .u64 (s : Int), .int .u32 (a : Int), .int .u32 (b : Int)] := by rw [hw0]; exact Blk.new _ _ _
  have b0 : Below w.heap.size w w0 := by rw [hw0]; exact (Below.refl _ _).alloc (Nat.le_refl _) _
  obtain ⟨w1, hw1⟩ : ∃ w1, w1 = w0.alloc (.cells #[.int .u64 (f2 : Int), .int .u64 (s2 : Int), .int .u32 (a2 : Int), .int .u32 (b2 : Int)] 30) := ⟨_, rfl⟩
  have s1 : w1.heap.size = w.heap.size + 2 := by rw [hw1, World.size_alloc, s0]
  have n1 : Blk w1 (w.heap.size + 1) 30 #[.int .u64 (f2 : Int), .int .u64 (s2 : Int), .int .u32 (a2 : Int), .int .u32 (b2 : Int)] := by rw [hw1, ← s0]; exact Blk.new _ _ _
  have b1 : Below w0.heap.size w0 w1 := by rw [hw1]; exact (Below.refl _ _).alloc (Nat.le_refl _) _
  obtain ⟨w2, hw2⟩ : ∃ w2, w2 = w1.alloc (.cells #[.int .i64 id, .string ip, .bool h, .int .i64 port] 38) := ⟨_, rfl⟩
  have n2 : Blk w2 (w.heap.size + 2) 38 #[.int .i64 id, .string ip, .bool h, .int .i64 port] := by rw [hw2, ← s1]; exact Blk.new _ _ _
  have b2' : Below w1.heap.size w1 w2 := by rw [hw2]; exact (Below.refl _ _).alloc (Nat.le_refl _) _
  obtain ⟨gq, hgq⟩ : ∃ gq, gq = w.heap.size + 1 := ⟨_, rfl⟩
  obtain ⟨gx, hgx⟩ : ∃ gx, gx = w.heap.size + 2 := ⟨_, rfl⟩
  have k2 : Kept w w.heap.size gq gx #[.int .u64 (f : Int), .int .u64 (s : Int), .int .u32 (a : Int), .int .u32 (b : Int)] #[.int .u64 (f2 : Int), .int .u64 (s2 : Int), .int .u32 (a2 : Int), .int .u32 (b2 : Int)] #[.int .i64 id, .string ip, .bool h, .int .i64 port] w2 := by
    have n1' := n1; rw [← hgq] at n1'; have n2' := n2; rw [← hgx] at n2'
    exact ⟨Blk.below (Blk.below n0 b1 (Blk.lt n0)) b2' (Nat.lt_of_lt_of_le (Blk.lt n0) b1.size), Blk.below n1' b2' (Blk.lt n1'), n2', (b0.trans (b1.mono b0.size)).trans (b2'.mono (b0.trans (b1.mono b0.size)).size)⟩
  have HK2 := Lib.hid k2
  have HGL := Lib.hid (show w.heap.size < gx ∧ w.heap.size ≠ gx ∧ gq ≠ gx by omega)
  have HT := Lib.hid ht
  have s0q : w0.heap.size = gq := by omega
  have s1x : w1.heap.size = gx := by omega
  have ew0 := hw0.symm
  have ew1 := hw1.symm
  have ew2 := hw2.symm
  have eF := hF.symm
  have n100 : min (ip.size : Int) 100 = (m0 : Int) := by split at mF <;> omega
  have m100 : min (100 : Int) (ip.size : Int) = (m0 : Int) := by split at mF <;> omega
  clear ht hi hp hU hT hM2 hT2 hw0 n0 b0 hw1 n1 b1 hw2 n2 b2' hgx hgq hF k2 s0 s1
  go_enter Tryd.func8, Tryd.ntmps8
  go_wp2_with fail
  refine (works_t w2 (HT.out.below HK2.out.bel)).mono ?_
  rintro e W1 ⟨rfl, bw⟩
  have HK3 := Lib.hid (HK2.out.below bw)
  have c1 := Blk.cell HK3.out.x 1
  have f1 := Blk.frozen HK3.out.x 1
  obtain ⟨V0, hV0⟩ : ∃ V0, V0 = W1.setCell ⟨gx, 1, none⟩ (.string F) := ⟨_, rfl⟩
  have HV0 := Lib.hid hV0
  have HM0 := Lib.hid (show Kept w w.heap.size gq gx #[.int .u64 (f : Int), .int .u64 (s : Int), .int .u32 (a : Int), .int .u32 (b : Int)] #[.int .u64 (f2 : Int), .int .u64 (s2 : Int), .int .u32 (a2 : Int), .int .u32 (b2 : Int)] #[.int .i64 id, .string F, .bool h, .int .i64 port] V0 from
    ⟨by rw [hV0]; exact blk_other HK3.out.p HGL.out.2.1 _, by rw [hV0]; exact blk_other HK3.out.q HGL.out.2.2 _, by rw [hV0]; exact blk_put HK3.out.x 1 _, by rw [hV0]; exact HK3.out.bel.setCell (Nat.le_of_lt HGL.out.1) _⟩)
  clear bw hV0 HK2 HK3 ew0 ew1 ew2 s0q s1x
  go_upto_region 4 with fail
  rw [← HV0.out]
  clear HV0 c1 f1 eF n100 m100 mF lF uF HGL
  have cp0 := Blk.cell HM0.out.p 0
  have cp1 := Blk.cell HM0.out.p 1
  have cp2 := Blk.cell HM0.out.p 2
  have cp3 := Blk.cell HM0.out.p 3
  go_wp2_with fail
  refine (Long_any f s hf hs a b ha hb U HUU.out V0 (HT.out.below HM0.out.bel)).mono ?_
  rintro e V1 ⟨rfl, bb⟩
  have HM1 := Lib.hid (HM0.out.below bb)
  clear bb HM0 cp0 cp1 cp2 cp3
  have cp0 := Blk.cell HM1.out.p 0
  have cp1 := Blk.cell HM1.out.p 1
  have cp2 := Blk.cell HM1.out.p 2
  have cp3 := Blk.cell HM1.out.p 3
  have HX1 := Lib.hid HM1.out.x
  go_wp2_with (refine wpList_load_row rfl 38 (.tmp 5) rfl gx rfl 38 #[.int .i64 id, .string F, .bool h, .int .i64 port] (0, 0) _ HX1.out Tryd.underlying38 rfl (by kernel_rfl) ?_)
  refine (Address_any f s hf hs id F (by omega) h port i p HI.out HP.out T HTT.out V1 (HT.out.below HM1.out.bel)).mono ?_
  rintro e V2 ⟨rfl, bb⟩
  have HM2 := Lib.hid (HM1.out.below bb)
  clear bb HM1 cp0 cp1 cp2 cp3 HX1
  have cq0 := Blk.cell HM2.out.q 0
  have cq1 := Blk.cell HM2.out.q 1
  have cq2 := Blk.cell HM2.out.q 2
  have cq3 := Blk.cell HM2.out.q 3
  go_wp2_with fail
  refine (Mac_any f2 s2 hf2 hs2 a2 b2 ha2 hb2 M2 HM2'.out V2 (HT.out.below HM2.out.bel)).mono ?_
  rintro e V3 ⟨rfl, bb⟩
  have HM3 := Lib.hid (HM2.out.below bb)
  clear bb HM2 cq0 cq1 cq2 cq3
  have cq0 := Blk.cell HM3.out.q 0
  have cq1 := Blk.cell HM3.out.q 1
  have cq2 := Blk.cell HM3.out.q 2
  have cq3 := Blk.cell HM3.out.q 3
  have HX3 := Lib.hid HM3.out.x
  go_wp2_with (refine wpList_load_row rfl 38 (.tmp 5) rfl gx rfl 38 #[.int .i64 id, .string F, .bool h, .int .i64 port] (0, 0) _ HX3.out Tryd.underlying38 rfl (by kernel_rfl) ?_)
  refine (Address_any f2 s2 hf2 hs2 id F (by omega) h port i p HI.out HP.out T2 HTT2.out V3 (HT.out.below HM3.out.bel)).mono ?_
  rintro e V4 ⟨rfl, bb⟩
  have HM4 := Lib.hid (HM3.out.below bb)
  clear bb HM3 cq0 cq1 cq2 cq3 HX3
  have HP4 := Lib.hid HM4.out.p
  go_upto_region 8 with fail
  go_cut [9, 10] (fun x y wx => x = .int .u64 (s : Int) ∧ y = .int .u64 (f : Int) ∧ Below V4.heap.size V4 wx)
  case first =>
    have B0 : Below V4.heap.size V4 V4.drew := (Below.refl _ V4).drew
    refine held_start (fun W => Below V4.heap.size V4 W) (by kernel_rfl) (n := 6) rfl ?_
    obtain ⟨W0, hW0⟩ : ∃ W0, W0 = V4.drew := ⟨_, rfl⟩
    rw [← hW0] at B0 ⊢
    clear hW0
    refine held_free 0 (.pointer (some ⟨w.heap.size, 1, none⟩)) rfl (by kernel_rfl) (by kernel_rfl) (by kernel_rfl) (by kernel_rfl) B0 (fun _ _ => ex_field (v := .pointer (some ⟨w.heap.size, 0, none⟩)) 30 (.tmp 3) 1 (by kernel_rfl) (by kernel_rfl) (by kernel_rfl)) ?_
    refine held_free 1 (.int .u64 (s : Int)) rfl (by kernel_rfl) (by kernel_rfl) (by kernel_rfl) (by kernel_rfl) B0 (fun W b => ex_load 22 (.tmp 51) (by kernel_rfl) ⟨w.heap.size, 1, none⟩ (by kernel_rfl) (by kernel_rfl) ((HP4.out.below b HP4.out.lt).cell 1)) ?_
    refine held_free 2 (.pointer (some ⟨w.heap.size, 0, none⟩)) rfl (by kernel_rfl) (by kernel_rfl) (by kernel_rfl) (by kernel_rfl) B0 (fun _ _ => ex_field (v := .pointer (some ⟨w.heap.size, 0, none⟩)) 30 (.tmp 3) 0 (by kernel_rfl) (by kernel_rfl) (by kernel_rfl)) ?_
    refine held_free 3 (.int .u64 (f : Int)) rfl (by kernel_rfl) (by kernel_rfl) (by kernel_rfl) (by kernel_rfl) B0 (fun W b => ex_load 22 (.tmp 53) (by kernel_rfl) ⟨w.heap.size, 0, none⟩ (by kernel_rfl) (by kernel_rfl) ((HP4.out.below b HP4.out.lt).cell 0)) ?_
    refine held_free 4 (.int .u64 (s : Int)) rfl (by kernel_rfl) (by kernel_rfl) (by kernel_rfl) (by kernel_rfl) B0 (fun _ _ => by kernel_rfl) ?_
    refine held_free 5 (.int .u64 (f : Int)) rfl (by kernel_rfl) (by kernel_rfl) (by kernel_rfl) (by kernel_rfl) B0 (fun _ _ => by kernel_rfl) ?_
    refine held_end_at ⟨#[Value.agg #[Value.int IntKind.u64 ↑f, Value.int IntKind.u64 ↑s, Value.int IntKind.u32 ↑a, Value.int IntKind.u32 ↑b], Value.agg #[Value.int IntKind.u64 ↑f2, Value.int IntKind.u64 ↑s2, Value.int IntKind.u32 ↑a2, Value.int IntKind.u32 ↑b2], adr id ip h port, .pointer (some ⟨w.heap.size, 0, none⟩), Value.pointer (some { block := gq, off := 0 }), Value.pointer (some { block := gx, off := 0 }), Value.bool false, Value.string U, Value.string T, .int .u64 (s : Int), .int .u64 (f : Int), Value.bool true, Value.bool false, Value.pointer (some { block := gx, off := 1 }), Value.string ip, Value.pointer (some { block := gx, off := 1 }), Value.string ip, Value.int IntKind.i64 ↑ip.size, Value.int IntKind.i64 ↑m0, Value.string F, Value.pointer (some { block := gx, off := 1 }), Value.pointer (some { block := w.heap.size, off := 0 }), Value.int IntKind.u64 ↑f, Value.pointer (some { block := w.heap.size, off := 1 }), Value.int IntKind.u64 ↑s, Value.pointer (some { block := w.heap.size, off := 2 }), Value.int IntKind.u32 ↑a, Value.pointer (some { block := w.heap.size, off := 3 }), Value.int IntKind.u32 ↑b, Value.string U, Value.pointer (some { block := w.heap.size, off := 0 }), Value.int IntKind.u64 ↑f, Value.pointer (some { block := w.heap.size, off := 1 }), Value.int IntKind.u64 ↑s, Value.agg #[Value.int IntKind.i64 id, Value.string F, Value.bool h, Value.int IntKind.i64 port], Value.string T, Value.pointer (some { block := gq, off := 0 }), Value.int IntKind.u64 ↑f2, Value.pointer (some { block := gq, off := 1 }), Value.int IntKind.u64 ↑s2, Value.pointer (some { block := gq, off := 2 }), Value.int IntKind.u32 ↑a2, Value.pointer (some { block := gq, off := 3 }), Value.int IntKind.u32 ↑b2, Value.agg M2, Value.pointer (some { block := gq, off := 0 }), Value.int IntKind.u64 ↑f2, Value.pointer (some { block := gq, off := 1 }), Value.int IntKind.u64 ↑s2, Value.agg #[Value.int IntKind.i64 id, Value.string F, Value.bool h, Value.int IntKind.i64 port], Value.string T2, .pointer (some ⟨w.heap.size, 1, none⟩), .int .u64 (s : Int), .pointer (some ⟨w.heap.size, 0, none⟩), .int .u64 (f : Int), undef, undef, undef, undef, undef, undef, undef, undef, undef, undef, undef, undef, undef, undef, undef, undef, undef, undef, undef, undef, undef, undef, undef, undef, undef, undef, undef, undef, undef, undef, undef, undef, undef, undef, undef, undef, undef, undef, undef, undef, undef, undef, undef, undef, undef, undef, undef, undef, undef, undef, undef, undef, undef, undef, undef], []⟩ (by kernel_rfl) (by kernel_rfl) ?_
    go_wp2_with fail
    go_meet
    exact ⟨rfl, rfl, B0⟩
  case rest =>
    obtain ⟨rfl, rfl, hb8⟩ := hcut
    obtain ⟨V, hV⟩ : ∃ V, V = wc := ⟨_, rfl⟩
    rw [← hV] at hb8 ⊢
    have HM := Lib.hid (HM4.out.below hb8)
    have HPV := Lib.hid HM.out.p
    have HQV := Lib.hid HM.out.q
    have HXV := Lib.hid HM.out.x
    have HTV := Lib.hid (HT.out.below HM.out.bel)
    clear hb8 hV HM4 HP4
    by_cases hff : f = f2
    · subst hff
      go_upto_region 9 with fail
      have B0 : Below V.heap.size V V.drew := (Below.refl _ V).drew
      refine held_start (fun W => Below V.heap.size V W) (by kernel_rfl) (n := 56) rfl ?_
      obtain ⟨W0, hW0⟩ : ∃ W0, W0 = V.drew := ⟨_, rfl⟩
      rw [← hW0] at B0 ⊢
      clear hW0
      refine held_free 0 (.int .u64 (f : Int)) rfl (by kernel_rfl) (by kernel_rfl) (by kernel_rfl) (by kernel_rfl) B0 (fun _ _ => by kernel_rfl) ?_
      refine held_free 1 (.int .u64 (s : Int)) rfl (by kernel_rfl) (by kernel_rfl) (by kernel_rfl) (by kernel_rfl) B0 (fun _ _ => by kernel_rfl) ?_
      refine held_free 2 (.pointer (some ⟨w.heap.size, 2, none⟩)) rfl (by kernel_rfl) (by kernel_rfl) (by kernel_rfl) (by kernel_rfl) B0 (fun _ _ => ex_field (v := .pointer (some ⟨w.heap.size, 0, none⟩)) 30 (.tmp 3) 2 (by kernel_rfl) (by kernel_rfl) (by kernel_rfl)) ?_
      refine held_free 3 (.int .u32 (a : Int)) rfl (by kernel_rfl) (by kernel_rfl) (by kernel_rfl) (by kernel_rfl) B0 (fun W b => ex_load 24 (.tmp 57) (by kernel_rfl) ⟨w.heap.size, 2, none⟩ (by kernel_rfl) (by kernel_rfl) ((HPV.out.below b HPV.out.lt).cell 2)) ?_
      refine held_free 4 (.pointer (some ⟨w.heap.size, 3, none⟩)) rfl (by kernel_rfl) (by kernel_rfl) (by kernel_rfl) (by kernel_rfl) B0 (fun _ _ => ex_field (v := .pointer (some ⟨w.heap.size, 0, none⟩)) 30 (.tmp 3) 3 (by kernel_rfl) (by kernel_rfl) (by kernel_rfl)) ?_
      refine held_free 5 (.int .u32 (b : Int)) rfl (by kernel_rfl) (by kernel_rfl) (by kernel_rfl) (by kernel_rfl) B0 (fun W b => ex_load 24 (.tmp 59) (by kernel_rfl) ⟨w.heap.size, 3, none⟩ (by kernel_rfl) (by kernel_rfl) ((HPV.out.below b HPV.out.lt).cell 3)) ?_
      refine held_free 7 (.string U) rfl (by kernel_rfl) (by kernel_rfl) (by kernel_rfl) (by kernel_rfl) B0 (fun _ _ => by kernel_rfl) ?_
      refine held_call 6 rfl (by kernel_rfl) (by kernel_rfl) (by kernel_rfl) (Long_any f s hf hs a b ha hb U HUU.out _ (HTV.out.below B0)) (fun w' h => bel_in B0 h) ?_
      intro W1 hW1
      have B1 := bel_in B0 hW1
      clear hW1 B0
      refine held_free 8 (.bool true) rfl (by kernel_rfl) (by kernel_rfl) (by kernel_rfl) (by kernel_rfl) B1 (fun _ _ => ex_streq 9 9 (.tmp 61) (.tmp 62) (by kernel_rfl) (U) (U) (by kernel_rfl) (by kernel_rfl) (by kernel_rfl) rfl) ?_
      refine held_free 9 (.bool true) rfl (by kernel_rfl) (by kernel_rfl) (by kernel_rfl) (by kernel_rfl) B1 (fun _ _ => by kernel_rfl) ?_
      refine held_free 10 (.int .u64 (f : Int)) rfl (by kernel_rfl) (by kernel_rfl) (by kernel_rfl) (by kernel_rfl) B1 (fun _ _ => by kernel_rfl) ?_
      refine held_free 11 (.int .u64 (s : Int)) rfl (by kernel_rfl) (by kernel_rfl) (by kernel_rfl) (by kernel_rfl) B1 (fun _ _ => by kernel_rfl) ?_
      refine held_free 12 (.agg #[.int .i64 id, .string F, .bool h, .int .i64 port]) rfl (by kernel_rfl) (by kernel_rfl) (by kernel_rfl) (by kernel_rfl) B1 (fun W b => exec_row_ 38 (.tmp 5) (by kernel_rfl) (gx) (by kernel_rfl) 38 _ (0, 0) _ (HXV.out.below b HXV.out.lt) Tryd.underlying38 rfl (by kernel_rfl)) ?_
      refine held_free 14 (.string T) rfl (by kernel_rfl) (by kernel_rfl) (by kernel_rfl) (by kernel_rfl) B1 (fun _ _ => by kernel_rfl) ?_
      refine held_call 13 rfl (by kernel_rfl) (by kernel_rfl) (by kernel_rfl) (Address_any f s hf hs id F (by omega) h port i p HI.out HP.out T HTT.out _ (HTV.out.below B1)) (fun w' h => bel_in B1 h) ?_
      intro W2 hW2
      have B2 := bel_in B1 hW2
      clear hW2 B1
      refine held_free 15 (.bool true) rfl (by kernel_rfl) (by kernel_rfl) (by kernel_rfl) (by kernel_rfl) B2 (fun _ _ => ex_streq 9 9 (.tmp 68) (.tmp 69) (by kernel_rfl) (T) (T) (by kernel_rfl) (by kernel_rfl) (by kernel_rfl) rfl) ?_
      refine held_free 16 (.bool true) rfl (by kernel_rfl) (by kernel_rfl) (by kernel_rfl) (by kernel_rfl) B2 (fun _ _ => by kernel_rfl) ?_
      refine held_free 17 (.bool true) rfl (by kernel_rfl) (by kernel_rfl) (by kernel_rfl) (by kernel_rfl) B2 (fun _ _ => by kernel_rfl) ?_
      refine held_free 18 (.pointer (some ⟨gq, 0, none⟩)) rfl (by kernel_rfl) (by kernel_rfl) (by kernel_rfl) (by kernel_rfl) B2 (fun _ _ => ex_field (v := .pointer (some ⟨gq, 0, none⟩)) 30 (.tmp 4) 0 (by kernel_rfl) (by kernel_rfl) (by kernel_rfl)) ?_
      refine held_free 19 (.int .u64 (f : Int)) rfl (by kernel_rfl) (by kernel_rfl) (by kernel_rfl) (by kernel_rfl) B2 (fun W b => ex_load 22 (.tmp 73) (by kernel_rfl) ⟨gq, 0, none⟩ (by kernel_rfl) (by kernel_rfl) ((HQV.out.below b HQV.out.lt).cell 0)) ?_
      refine held_free 21 (.pointer (some ⟨gq, 0, none⟩)) rfl (by kernel_rfl) (by kernel_rfl) (by kernel_rfl) (by kernel_rfl) B2 (fun _ _ => ex_field (v := .pointer (some ⟨gq, 0, none⟩)) 30 (.tmp 4) 0 (by kernel_rfl) (by kernel_rfl) (by kernel_rfl)) ?_
      refine held_free 22 (.int .u64 (f : Int)) rfl (by kernel_rfl) (by kernel_rfl) (by kernel_rfl) (by kernel_rfl) B2 (fun W b => ex_load 22 (.tmp 76) (by kernel_rfl) ⟨gq, 0, none⟩ (by kernel_rfl) (by kernel_rfl) ((HQV.out.below b HQV.out.lt).cell 0)) ?_
      refine held_call 20 rfl (by kernel_rfl) (by kernel_rfl) (by kernel_rfl) (Token_any f hf _ (HTV.out.below B2)) (fun w' h => bel_in B2 h) ?_
      intro W3 hW3
      have B3 := bel_in B2 hW3
      clear hW3 B2
      refine held_call 23 rfl (by kernel_rfl) (by kernel_rfl) (by kernel_rfl) (Token_any f hf _ (HTV.out.below B3)) (fun w' h => bel_in B3 h) ?_
      intro W4 hW4
      have B4 := bel_in B3 hW4
      clear hW4 B3
      refine held_free 24 (.bool true) rfl (by kernel_rfl) (by kernel_rfl) (by kernel_rfl) (by kernel_rfl) B4 (fun _ _ => ex_inteq .u32 24 24 (.tmp 75) (.tmp 78) (by kernel_rfl) ((tok f : Int)) ((tok f : Int)) (by kernel_rfl) (by kernel_rfl) (by kernel_rfl) rfl) ?_
      refine held_free 25 (.bool true) rfl (by kernel_rfl) (by kernel_rfl) (by kernel_rfl) (by kernel_rfl) B4 (fun _ _ => by kernel_rfl) ?_
      refine held_free 26 (.bool true) rfl (by kernel_rfl) (by kernel_rfl) (by kernel_rfl) (by kernel_rfl) B4 (fun _ _ => by kernel_rfl) ?_
      refine held_free 27 (.pointer (some ⟨w.heap.size, 0, none⟩)) rfl (by kernel_rfl) (by kernel_rfl) (by kernel_rfl) (by kernel_rfl) B4 (fun _ _ => ex_field (v := .pointer (some ⟨w.heap.size, 0, none⟩)) 30 (.tmp 3) 0 (by kernel_rfl) (by kernel_rfl) (by kernel_rfl)) ?_
      refine held_free 28 (.int .u64 (f : Int)) rfl (by kernel_rfl) (by kernel_rfl) (by kernel_rfl) (by kernel_rfl) B4 (fun W b => ex_load 22 (.tmp 82) (by kernel_rfl) ⟨w.heap.size, 0, none⟩ (by kernel_rfl) (by kernel_rfl) ((HPV.out.below b HPV.out.lt).cell 0)) ?_
      refine held_free 29 (.pointer (some ⟨gq, 0, none⟩)) rfl (by kernel_rfl) (by kernel_rfl) (by kernel_rfl) (by kernel_rfl) B4 (fun _ _ => ex_field (v := .pointer (some ⟨gq, 0, none⟩)) 30 (.tmp 4) 0 (by kernel_rfl) (by kernel_rfl) (by kernel_rfl)) ?_
      refine held_free 30 (.int .u64 (f : Int)) rfl (by kernel_rfl) (by kernel_rfl) (by kernel_rfl) (by kernel_rfl) B4 (fun W b => ex_load 22 (.tmp 84) (by kernel_rfl) ⟨gq, 0, none⟩ (by kernel_rfl) (by kernel_rfl) ((HQV.out.below b HQV.out.lt).cell 0)) ?_
      refine held_free 31 (.bool false) rfl (by kernel_rfl) (by kernel_rfl) (by kernel_rfl) (by kernel_rfl) B4 (fun _ _ => ex_intneq .u64 22 22 (.tmp 83) (.tmp 85) (by kernel_rfl) ((f : Int)) ((f : Int)) (by kernel_rfl) (by kernel_rfl) (by kernel_rfl) rfl) ?_
      refine held_free 32 (.bool false) rfl (by kernel_rfl) (by kernel_rfl) (by kernel_rfl) (by kernel_rfl) B4 (fun _ _ => by kernel_rfl) ?_
      refine held_free 33 (.pointer (some ⟨w.heap.size, 0, none⟩)) rfl (by kernel_rfl) (by kernel_rfl) (by kernel_rfl) (by kernel_rfl) B4 (fun _ _ => ex_field (v := .pointer (some ⟨w.heap.size, 0, none⟩)) 30 (.tmp 3) 0 (by kernel_rfl) (by kernel_rfl) (by kernel_rfl)) ?_
      refine held_free 34 (.int .u64 (f : Int)) rfl (by kernel_rfl) (by kernel_rfl) (by kernel_rfl) (by kernel_rfl) B4 (fun W b => ex_load 22 (.tmp 88) (by kernel_rfl) ⟨w.heap.size, 0, none⟩ (by kernel_rfl) (by kernel_rfl) ((HPV.out.below b HPV.out.lt).cell 0)) ?_
      refine held_free 36 (.pointer (some ⟨gq, 0, none⟩)) rfl (by kernel_rfl) (by kernel_rfl) (by kernel_rfl) (by kernel_rfl) B4 (fun _ _ => ex_field (v := .pointer (some ⟨gq, 0, none⟩)) 30 (.tmp 4) 0 (by kernel_rfl) (by kernel_rfl) (by kernel_rfl)) ?_
      refine held_free 37 (.int .u64 (f : Int)) rfl (by kernel_rfl) (by kernel_rfl) (by kernel_rfl) (by kernel_rfl) B4 (fun W b => ex_load 22 (.tmp 91) (by kernel_rfl) ⟨gq, 0, none⟩ (by kernel_rfl) (by kernel_rfl) ((HQV.out.below b HQV.out.lt).cell 0)) ?_
      refine held_call 35 rfl (by kernel_rfl) (by kernel_rfl) (by kernel_rfl) (Idsn_any f hf _ (HTV.out.below B4)) (fun w' h => bel_in B4 h) ?_
      intro W5 hW5
      have B5 := bel_in B4 hW5
      clear hW5 B4
      refine held_call 38 rfl (by kernel_rfl) (by kernel_rfl) (by kernel_rfl) (Idsn_any f hf _ (HTV.out.below B5)) (fun w' h => bel_in B5 h) ?_
      intro W6 hW6
      have B6 := bel_in B5 hW6
      clear hW6 B5
      refine held_free 39 (.bool true) rfl (by kernel_rfl) (by kernel_rfl) (by kernel_rfl) (by kernel_rfl) B6 (fun _ _ => ex_inteq .u64 22 22 (.tmp 90) (.tmp 93) (by kernel_rfl) ((idsn f : Int)) ((idsn f : Int)) (by kernel_rfl) (by kernel_rfl) (by kernel_rfl) rfl) ?_
      refine held_free 40 (.bool true) rfl (by kernel_rfl) (by kernel_rfl) (by kernel_rfl) (by kernel_rfl) B6 (fun _ _ => by kernel_rfl) ?_
      refine held_free 41 (.bool true) rfl (by kernel_rfl) (by kernel_rfl) (by kernel_rfl) (by kernel_rfl) B6 (fun _ _ => by kernel_rfl) ?_
      refine held_free 42 (.bool true) rfl (by kernel_rfl) (by kernel_rfl) (by kernel_rfl) (by kernel_rfl) B6 (fun _ _ => by kernel_rfl) ?_
      refine held_free 43 (.string U) rfl (by kernel_rfl) (by kernel_rfl) (by kernel_rfl) (by kernel_rfl) B6 (fun _ _ => by kernel_rfl) ?_
      refine held_free 44 (.pointer (some ⟨w.heap.size, 0, none⟩)) rfl (by kernel_rfl) (by kernel_rfl) (by kernel_rfl) (by kernel_rfl) B6 (fun _ _ => ex_field (v := .pointer (some ⟨w.heap.size, 0, none⟩)) 30 (.tmp 3) 0 (by kernel_rfl) (by kernel_rfl) (by kernel_rfl)) ?_
      refine held_free 45 (.int .u64 (f : Int)) rfl (by kernel_rfl) (by kernel_rfl) (by kernel_rfl) (by kernel_rfl) B6 (fun W b => ex_load 22 (.tmp 99) (by kernel_rfl) ⟨w.heap.size, 0, none⟩ (by kernel_rfl) (by kernel_rfl) ((HPV.out.below b HPV.out.lt).cell 0)) ?_
      refine held_free 46 (.pointer (some ⟨w.heap.size, 1, none⟩)) rfl (by kernel_rfl) (by kernel_rfl) (by kernel_rfl) (by kernel_rfl) B6 (fun _ _ => ex_field (v := .pointer (some ⟨w.heap.size, 0, none⟩)) 30 (.tmp 3) 1 (by kernel_rfl) (by kernel_rfl) (by kernel_rfl)) ?_
      refine held_free 47 (.int .u64 (s : Int)) rfl (by kernel_rfl) (by kernel_rfl) (by kernel_rfl) (by kernel_rfl) B6 (fun W b => ex_load 22 (.tmp 101) (by kernel_rfl) ⟨w.heap.size, 1, none⟩ (by kernel_rfl) (by kernel_rfl) ((HPV.out.below b HPV.out.lt).cell 1)) ?_
      refine held_free 48 (.pointer (some ⟨w.heap.size, 2, none⟩)) rfl (by kernel_rfl) (by kernel_rfl) (by kernel_rfl) (by kernel_rfl) B6 (fun _ _ => ex_field (v := .pointer (some ⟨w.heap.size, 0, none⟩)) 30 (.tmp 3) 2 (by kernel_rfl) (by kernel_rfl) (by kernel_rfl)) ?_
      refine held_free 49 (.int .u32 (a : Int)) rfl (by kernel_rfl) (by kernel_rfl) (by kernel_rfl) (by kernel_rfl) B6 (fun W b => ex_load 24 (.tmp 103) (by kernel_rfl) ⟨w.heap.size, 2, none⟩ (by kernel_rfl) (by kernel_rfl) ((HPV.out.below b HPV.out.lt).cell 2)) ?_
      refine held_free 50 (.pointer (some ⟨w.heap.size, 3, none⟩)) rfl (by kernel_rfl) (by kernel_rfl) (by kernel_rfl) (by kernel_rfl) B6 (fun _ _ => ex_field (v := .pointer (some ⟨w.heap.size, 0, none⟩)) 30 (.tmp 3) 3 (by kernel_rfl) (by kernel_rfl) (by kernel_rfl)) ?_
      refine held_free 51 (.int .u32 (b : Int)) rfl (by kernel_rfl) (by kernel_rfl) (by kernel_rfl) (by kernel_rfl) B6 (fun W b => ex_load 24 (.tmp 105) (by kernel_rfl) ⟨w.heap.size, 3, none⟩ (by kernel_rfl) (by kernel_rfl) ((HPV.out.below b HPV.out.lt).cell 3)) ?_
      refine held_call 52 rfl (by kernel_rfl) (by kernel_rfl) (by kernel_rfl) (Long_any f s hf hs a b ha hb U HUU.out _ (HTV.out.below B6)) (fun w' h => bel_in B6 h) ?_
      intro W7 hW7
      have B7 := bel_in B6 hW7
      clear hW7 B6
      refine held_call 53 rfl (by kernel_rfl) (by kernel_rfl) (by kernel_rfl) (stays (Same_any U U true (by simp) (by omega) (by omega) _)) (fun w' h => bel_in B7 h) ?_
      intro W8 hW8
      have B8 := bel_in B7 hW8
      clear hW8 B7
      refine held_free 54 (.bool true) rfl (by kernel_rfl) (by kernel_rfl) (by kernel_rfl) (by kernel_rfl) B8 (fun _ _ => by kernel_rfl) ?_
      refine held_free 55 (.bool true) rfl (by kernel_rfl) (by kernel_rfl) (by kernel_rfl) (by kernel_rfl) B8 (fun _ _ => by kernel_rfl) ?_
      refine held_end (by kernel_rfl) ?_
      go_wp2_with fail
      exact ret_slot 6 (.bool true) (by kernel_rfl) (by kernel_rfl) (by kernel_rfl) ⟨rfl, HM.out.bel.trans (B8.mono HM.out.bel.size)⟩
    · have HNE := Lib.hid (show (f : Int) ≠ (f2 : Int) by omega)
      go_upto_region 9 with fail
      have B0 : Below V.heap.size V V.drew := (Below.refl _ V).drew
      refine held_start (fun W => Below V.heap.size V W) (by kernel_rfl) (n := 56) rfl ?_
      obtain ⟨W0, hW0⟩ : ∃ W0, W0 = V.drew := ⟨_, rfl⟩
      rw [← hW0] at B0 ⊢
      clear hW0
      refine held_free 0 (.int .u64 (f : Int)) rfl (by kernel_rfl) (by kernel_rfl) (by kernel_rfl) (by kernel_rfl) B0 (fun _ _ => by kernel_rfl) ?_
      refine held_free 1 (.int .u64 (s : Int)) rfl (by kernel_rfl) (by kernel_rfl) (by kernel_rfl) (by kernel_rfl) B0 (fun _ _ => by kernel_rfl) ?_
      refine held_free 2 (.pointer (some ⟨w.heap.size, 2, none⟩)) rfl (by kernel_rfl) (by kernel_rfl) (by kernel_rfl) (by kernel_rfl) B0 (fun _ _ => ex_field (v := .pointer (some ⟨w.heap.size, 0, none⟩)) 30 (.tmp 3) 2 (by kernel_rfl) (by kernel_rfl) (by kernel_rfl)) ?_
      refine held_free 3 (.int .u32 (a : Int)) rfl (by kernel_rfl) (by kernel_rfl) (by kernel_rfl) (by kernel_rfl) B0 (fun W b => ex_load 24 (.tmp 57) (by kernel_rfl) ⟨w.heap.size, 2, none⟩ (by kernel_rfl) (by kernel_rfl) ((HPV.out.below b HPV.out.lt).cell 2)) ?_
      refine held_free 4 (.pointer (some ⟨w.heap.size, 3, none⟩)) rfl (by kernel_rfl) (by kernel_rfl) (by kernel_rfl) (by kernel_rfl) B0 (fun _ _ => ex_field (v := .pointer (some ⟨w.heap.size, 0, none⟩)) 30 (.tmp 3) 3 (by kernel_rfl) (by kernel_rfl) (by kernel_rfl)) ?_
      refine held_free 5 (.int .u32 (b : Int)) rfl (by kernel_rfl) (by kernel_rfl) (by kernel_rfl) (by kernel_rfl) B0 (fun W b => ex_load 24 (.tmp 59) (by kernel_rfl) ⟨w.heap.size, 3, none⟩ (by kernel_rfl) (by kernel_rfl) ((HPV.out.below b HPV.out.lt).cell 3)) ?_
      refine held_free 7 (.string U) rfl (by kernel_rfl) (by kernel_rfl) (by kernel_rfl) (by kernel_rfl) B0 (fun _ _ => by kernel_rfl) ?_
      refine held_call 6 rfl (by kernel_rfl) (by kernel_rfl) (by kernel_rfl) (Long_any f s hf hs a b ha hb U HUU.out _ (HTV.out.below B0)) (fun w' h => bel_in B0 h) ?_
      intro W1 hW1
      have B1 := bel_in B0 hW1
      clear hW1 B0
      refine held_free 8 (.bool true) rfl (by kernel_rfl) (by kernel_rfl) (by kernel_rfl) (by kernel_rfl) B1 (fun _ _ => ex_streq 9 9 (.tmp 61) (.tmp 62) (by kernel_rfl) (U) (U) (by kernel_rfl) (by kernel_rfl) (by kernel_rfl) rfl) ?_
      refine held_free 9 (.bool true) rfl (by kernel_rfl) (by kernel_rfl) (by kernel_rfl) (by kernel_rfl) B1 (fun _ _ => by kernel_rfl) ?_
      refine held_free 10 (.int .u64 (f : Int)) rfl (by kernel_rfl) (by kernel_rfl) (by kernel_rfl) (by kernel_rfl) B1 (fun _ _ => by kernel_rfl) ?_
      refine held_free 11 (.int .u64 (s : Int)) rfl (by kernel_rfl) (by kernel_rfl) (by kernel_rfl) (by kernel_rfl) B1 (fun _ _ => by kernel_rfl) ?_
      refine held_free 12 (.agg #[.int .i64 id, .string F, .bool h, .int .i64 port]) rfl (by kernel_rfl) (by kernel_rfl) (by kernel_rfl) (by kernel_rfl) B1 (fun W b => exec_row_ 38 (.tmp 5) (by kernel_rfl) (gx) (by kernel_rfl) 38 _ (0, 0) _ (HXV.out.below b HXV.out.lt) Tryd.underlying38 rfl (by kernel_rfl)) ?_
      refine held_free 14 (.string T) rfl (by kernel_rfl) (by kernel_rfl) (by kernel_rfl) (by kernel_rfl) B1 (fun _ _ => by kernel_rfl) ?_
      refine held_call 13 rfl (by kernel_rfl) (by kernel_rfl) (by kernel_rfl) (Address_any f s hf hs id F (by omega) h port i p HI.out HP.out T HTT.out _ (HTV.out.below B1)) (fun w' h => bel_in B1 h) ?_
      intro W2 hW2
      have B2 := bel_in B1 hW2
      clear hW2 B1
      refine held_free 15 (.bool true) rfl (by kernel_rfl) (by kernel_rfl) (by kernel_rfl) (by kernel_rfl) B2 (fun _ _ => ex_streq 9 9 (.tmp 68) (.tmp 69) (by kernel_rfl) (T) (T) (by kernel_rfl) (by kernel_rfl) (by kernel_rfl) rfl) ?_
      refine held_free 16 (.bool true) rfl (by kernel_rfl) (by kernel_rfl) (by kernel_rfl) (by kernel_rfl) B2 (fun _ _ => by kernel_rfl) ?_
      refine held_free 17 (.bool true) rfl (by kernel_rfl) (by kernel_rfl) (by kernel_rfl) (by kernel_rfl) B2 (fun _ _ => by kernel_rfl) ?_
      refine held_free 18 (.pointer (some ⟨gq, 0, none⟩)) rfl (by kernel_rfl) (by kernel_rfl) (by kernel_rfl) (by kernel_rfl) B2 (fun _ _ => ex_field (v := .pointer (some ⟨gq, 0, none⟩)) 30 (.tmp 4) 0 (by kernel_rfl) (by kernel_rfl) (by kernel_rfl)) ?_
      refine held_free 19 (.int .u64 (f2 : Int)) rfl (by kernel_rfl) (by kernel_rfl) (by kernel_rfl) (by kernel_rfl) B2 (fun W b => ex_load 22 (.tmp 73) (by kernel_rfl) ⟨gq, 0, none⟩ (by kernel_rfl) (by kernel_rfl) ((HQV.out.below b HQV.out.lt).cell 0)) ?_
      refine held_free 21 (.pointer (some ⟨gq, 0, none⟩)) rfl (by kernel_rfl) (by kernel_rfl) (by kernel_rfl) (by kernel_rfl) B2 (fun _ _ => ex_field (v := .pointer (some ⟨gq, 0, none⟩)) 30 (.tmp 4) 0 (by kernel_rfl) (by kernel_rfl) (by kernel_rfl)) ?_
      refine held_free 22 (.int .u64 (f2 : Int)) rfl (by kernel_rfl) (by kernel_rfl) (by kernel_rfl) (by kernel_rfl) B2 (fun W b => ex_load 22 (.tmp 76) (by kernel_rfl) ⟨gq, 0, none⟩ (by kernel_rfl) (by kernel_rfl) ((HQV.out.below b HQV.out.lt).cell 0)) ?_
      refine held_call 20 rfl (by kernel_rfl) (by kernel_rfl) (by kernel_rfl) (Token_any f2 hf2 _ (HTV.out.below B2)) (fun w' h => bel_in B2 h) ?_
      intro W3 hW3
      have B3 := bel_in B2 hW3
      clear hW3 B2
      refine held_call 23 rfl (by kernel_rfl) (by kernel_rfl) (by kernel_rfl) (Token_any f2 hf2 _ (HTV.out.below B3)) (fun w' h => bel_in B3 h) ?_
      intro W4 hW4
      have B4 := bel_in B3 hW4
      clear hW4 B3
      refine held_free 24 (.bool true) rfl (by kernel_rfl) (by kernel_rfl) (by kernel_rfl) (by kernel_rfl) B4 (fun _ _ => ex_inteq .u32 24 24 (.tmp 75) (.tmp 78) (by kernel_rfl) ((tok f2 : Int)) ((tok f2 : Int)) (by kernel_rfl) (by kernel_rfl) (by kernel_rfl) rfl) ?_
      refine held_free 25 (.bool true) rfl (by kernel_rfl) (by kernel_rfl) (by kernel_rfl) (by kernel_rfl) B4 (fun _ _ => by kernel_rfl) ?_
      refine held_free 26 (.bool true) rfl (by kernel_rfl) (by kernel_rfl) (by kernel_rfl) (by kernel_rfl) B4 (fun _ _ => by kernel_rfl) ?_
      refine held_free 27 (.pointer (some ⟨w.heap.size, 0, none⟩)) rfl (by kernel_rfl) (by kernel_rfl) (by kernel_rfl) (by kernel_rfl) B4 (fun _ _ => ex_field (v := .pointer (some ⟨w.heap.size, 0, none⟩)) 30 (.tmp 3) 0 (by kernel_rfl) (by kernel_rfl) (by kernel_rfl)) ?_
      refine held_free 28 (.int .u64 (f : Int)) rfl (by kernel_rfl) (by kernel_rfl) (by kernel_rfl) (by kernel_rfl) B4 (fun W b => ex_load 22 (.tmp 82) (by kernel_rfl) ⟨w.heap.size, 0, none⟩ (by kernel_rfl) (by kernel_rfl) ((HPV.out.below b HPV.out.lt).cell 0)) ?_
      refine held_free 29 (.pointer (some ⟨gq, 0, none⟩)) rfl (by kernel_rfl) (by kernel_rfl) (by kernel_rfl) (by kernel_rfl) B4 (fun _ _ => ex_field (v := .pointer (some ⟨gq, 0, none⟩)) 30 (.tmp 4) 0 (by kernel_rfl) (by kernel_rfl) (by kernel_rfl)) ?_
      refine held_free 30 (.int .u64 (f2 : Int)) rfl (by kernel_rfl) (by kernel_rfl) (by kernel_rfl) (by kernel_rfl) B4 (fun W b => ex_load 22 (.tmp 84) (by kernel_rfl) ⟨gq, 0, none⟩ (by kernel_rfl) (by kernel_rfl) ((HQV.out.below b HQV.out.lt).cell 0)) ?_
      refine held_free 31 (.bool true) rfl (by kernel_rfl) (by kernel_rfl) (by kernel_rfl) (by kernel_rfl) B4 (fun _ _ => ex_intne .u64 22 22 (.tmp 83) (.tmp 85) (by kernel_rfl) ((f : Int)) ((f2 : Int)) (by kernel_rfl) (by kernel_rfl) (by kernel_rfl) HNE.out) ?_
      refine held_free 32 (.bool true) rfl (by kernel_rfl) (by kernel_rfl) (by kernel_rfl) (by kernel_rfl) B4 (fun _ _ => by kernel_rfl) ?_
      refine held_pass 33 rfl (by kernel_rfl) (by kernel_rfl) (by kernel_rfl) (by kernel_rfl) B4 ?_
      refine held_pass 34 rfl (by kernel_rfl) (by kernel_rfl) (by kernel_rfl) (by kernel_rfl) B4 ?_
      refine held_pass 35 rfl (by kernel_rfl) (by kernel_rfl) (by kernel_rfl) (by kernel_rfl) B4 ?_
      refine held_pass 36 rfl (by kernel_rfl) (by kernel_rfl) (by kernel_rfl) (by kernel_rfl) B4 ?_
      refine held_pass 37 rfl (by kernel_rfl) (by kernel_rfl) (by kernel_rfl) (by kernel_rfl) B4 ?_
      refine held_pass 38 rfl (by kernel_rfl) (by kernel_rfl) (by kernel_rfl) (by kernel_rfl) B4 ?_
      refine held_pass 39 rfl (by kernel_rfl) (by kernel_rfl) (by kernel_rfl) (by kernel_rfl) B4 ?_
      refine held_free 40 (.bool true) rfl (by kernel_rfl) (by kernel_rfl) (by kernel_rfl) (by kernel_rfl) B4 (fun _ _ => by kernel_rfl) ?_
      refine held_free 41 (.bool true) rfl (by kernel_rfl) (by kernel_rfl) (by kernel_rfl) (by kernel_rfl) B4 (fun _ _ => by kernel_rfl) ?_
      refine held_free 42 (.bool true) rfl (by kernel_rfl) (by kernel_rfl) (by kernel_rfl) (by kernel_rfl) B4 (fun _ _ => by kernel_rfl) ?_
      refine held_free 43 (.string U) rfl (by kernel_rfl) (by kernel_rfl) (by kernel_rfl) (by kernel_rfl) B4 (fun _ _ => by kernel_rfl) ?_
      refine held_free 44 (.pointer (some ⟨w.heap.size, 0, none⟩)) rfl (by kernel_rfl) (by kernel_rfl) (by kernel_rfl) (by kernel_rfl) B4 (fun _ _ => ex_field (v := .pointer (some ⟨w.heap.size, 0, none⟩)) 30 (.tmp 3) 0 (by kernel_rfl) (by kernel_rfl) (by kernel_rfl)) ?_
      refine held_free 45 (.int .u64 (f : Int)) rfl (by kernel_rfl) (by kernel_rfl) (by kernel_rfl) (by kernel_rfl) B4 (fun W b => ex_load 22 (.tmp 99) (by kernel_rfl) ⟨w.heap.size, 0, none⟩ (by kernel_rfl) (by kernel_rfl) ((HPV.out.below b HPV.out.lt).cell 0)) ?_
      refine held_free 46 (.pointer (some ⟨w.heap.size, 1, none⟩)) rfl (by kernel_rfl) (by kernel_rfl) (by kernel_rfl) (by kernel_rfl) B4 (fun _ _ => ex_field (v := .pointer (some ⟨w.heap.size, 0, none⟩)) 30 (.tmp 3) 1 (by kernel_rfl) (by kernel_rfl) (by kernel_rfl)) ?_
      refine held_free 47 (.int .u64 (s : Int)) rfl (by kernel_rfl) (by kernel_rfl) (by kernel_rfl) (by kernel_rfl) B4 (fun W b => ex_load 22 (.tmp 101) (by kernel_rfl) ⟨w.heap.size, 1, none⟩ (by kernel_rfl) (by kernel_rfl) ((HPV.out.below b HPV.out.lt).cell 1)) ?_
      refine held_free 48 (.pointer (some ⟨w.heap.size, 2, none⟩)) rfl (by kernel_rfl) (by kernel_rfl) (by kernel_rfl) (by kernel_rfl) B4 (fun _ _ => ex_field (v := .pointer (some ⟨w.heap.size, 0, none⟩)) 30 (.tmp 3) 2 (by kernel_rfl) (by kernel_rfl) (by kernel_rfl)) ?_
      refine held_free 49 (.int .u32 (a : Int)) rfl (by kernel_rfl) (by kernel_rfl) (by kernel_rfl) (by kernel_rfl) B4 (fun W b => ex_load 24 (.tmp 103) (by kernel_rfl) ⟨w.heap.size, 2, none⟩ (by kernel_rfl) (by kernel_rfl) ((HPV.out.below b HPV.out.lt).cell 2)) ?_
      refine held_free 50 (.pointer (some ⟨w.heap.size, 3, none⟩)) rfl (by kernel_rfl) (by kernel_rfl) (by kernel_rfl) (by kernel_rfl) B4 (fun _ _ => ex_field (v := .pointer (some ⟨w.heap.size, 0, none⟩)) 30 (.tmp 3) 3 (by kernel_rfl) (by kernel_rfl) (by kernel_rfl)) ?_
      refine held_free 51 (.int .u32 (b : Int)) rfl (by kernel_rfl) (by kernel_rfl) (by kernel_rfl) (by kernel_rfl) B4 (fun W b => ex_load 24 (.tmp 105) (by kernel_rfl) ⟨w.heap.size, 3, none⟩ (by kernel_rfl) (by kernel_rfl) ((HPV.out.below b HPV.out.lt).cell 3)) ?_
      refine held_call 52 rfl (by kernel_rfl) (by kernel_rfl) (by kernel_rfl) (Long_any f s hf hs a b ha hb U HUU.out _ (HTV.out.below B4)) (fun w' h => bel_in B4 h) ?_
      intro W5 hW5
      have B5 := bel_in B4 hW5
      clear hW5 B4
      refine held_call 53 rfl (by kernel_rfl) (by kernel_rfl) (by kernel_rfl) (stays (Same_any U U true (by simp) (by omega) (by omega) _)) (fun w' h => bel_in B5 h) ?_
      intro W6 hW6
      have B6 := bel_in B5 hW6
      clear hW6 B5
      refine held_free 54 (.bool true) rfl (by kernel_rfl) (by kernel_rfl) (by kernel_rfl) (by kernel_rfl) B6 (fun _ _ => by kernel_rfl) ?_
      refine held_free 55 (.bool true) rfl (by kernel_rfl) (by kernel_rfl) (by kernel_rfl) (by kernel_rfl) B6 (fun _ _ => by kernel_rfl) ?_
      refine held_end (by kernel_rfl) ?_
      go_wp2_with fail
      exact ret_slot 6 (.bool true) (by kernel_rfl) (by kernel_rfl) (by kernel_rfl) ⟨rfl, HM.out.bel.trans (B6.mono HM.out.bel.size)⟩

set_option maxRecDepth 100000 in
theorem lifted (os : Os) (started : os.Started) (H : Type) (enc : TypeId × Value → H) :
    ReturnsInHanded {} Tryd.checked os 8 .any (fun w args => (Rows.keySidesSpec.pre enc Tryd.prog Tryd.f8 [] false w args ∧ laidMetH Tryd.prog laid1 w) ∧ sizedMet enc Tryd.prog Tryd.f8 (OpenSpec.ofChange Rows.keySidesSpec) false w args)
      (Rows.keySidesSpec.post enc Tryd.prog Tryd.f8 false true false false) := by
  refine returnsInHanded_of_change_and (C := Tryd.checked) (X := fun w _ => laidMetH Tryd.prog laid1 w) (fun _ _ _ hh h => h.of_heap hh) own started (by kernel_rfl) Tryd.func8
    (ChangeSpec.witness_shaped (enc := enc) (C := Tryd.checked) (os := os) (X := fun w _ => laidMetH Tryd.prog laid1 w) false (World.doorLaid Tryd.prog 400 os) #[.agg #[.int .u64 0, .int .u64 0, .int .u32 0, .int .u32 0], .agg #[.int .u64 0, .int .u64 0, .int .u32 0, .int .u32 0], .agg #[.int .i64 0, .string ByteArray.empty, .bool false, .int .i64 0]] 8 rfl (World.shaped_of_RefB (by kernel_rfl) (by kernel_rfl)) (by kernel_rfl) (by kernel_rfl) (by kernel_rfl) (door_met os _)) ?_
  intro W base args ds gs before hval0 hW hcnd hsz0 hL _
  have hsz : (DataW.weightsEach Tryd.prog (Tryd.f8.params.toList ++ Rows.keySidesSpec.plain.varTypes Tryd.prog) (ds ++ gs)).all (· ≤ reachBytes) = true := hsz0
  have ht := table_of hL
  have hval : ∀ (j : Nat) t v, Tryd.f8.params[j]? = some t → args[j]? = some v → Value.okWide Tryd.prog W .any base t v := hval0
  have hW' := hW
  obtain ⟨p, q, hA0, hV, rfl, hfz, hnd⟩ := hW
  have hA : DataW.TrodAll enc Tryd.prog W 0 (fun _ => true) true Tryd.f8.params.toList args.toList ds p := hA0
  rw [Tryd.params8] at hA hval hsz
  obtain ⟨v0, vs0, d0, ds0, p0, q0, hargs, rfl, rfl, h0, r0⟩ := trodAll_cons hA
  obtain ⟨v1, vs1, d1, ds1, p1, q1, rfl, rfl, rfl, h1, r1⟩ := trodAll_cons r0
  obtain ⟨v2, vs2, d2, ds2, p2, q2, rfl, rfl, rfl, h2, r2⟩ := trodAll_cons r1
  obtain ⟨rfl, rfl, rfl⟩ := trodAll_nil r2
  obtain rfl : args = #[v0, v1, v2] := by cases args; simp_all
  obtain ⟨rfl, rfl⟩ := trodVars_none hV
  have k0 := h0
  have lt0 : ∀ x ∈ p0, x.block < W.heap.size := by obtain ⟨m, hm⟩ := k0; exact DataW.trod_lt m _ _ _ hm
  obtain ⟨f, s, a, b, rfl, hf, hs, ha, hb⟩ := open_keys (hval 0 30 v0 rfl rfl) h0
  have k1 := h1
  have lt1 : ∀ x ∈ p1, x.block < W.heap.size := by obtain ⟨m, hm⟩ := k1; exact DataW.trod_lt m _ _ _ hm
  obtain ⟨f2, s2, a2, b2, rfl, hf2, hs2, ha2, hb2⟩ := open_keys (hval 1 30 v1 rfl rfl) h1
  have k2 := h2
  have lt2 : ∀ x ∈ p2, x.block < W.heap.size := by obtain ⟨m, hm⟩ := k2; exact DataW.trod_lt m _ _ _ hm
  obtain ⟨id, ip, hp, port, rfl, hid, hport, parts, hparts, hpart1⟩ := open_adr (hval 2 38 v2 rfl rfl) h2
  have zip : ip.size ≤ 140737488351232 := by have := agg_string hsz (j := 2) (k := 1) (t := 38) (tk := 9) rfl (by rw [hparts]; rfl) Tryd.underlying38 (by kernel_rfl) hpart1; simpa [reachBytes] using this
  clear hA0 hval0
  simp only [List.append_nil] at hW'
  refine (walk f s hf hs a b ha hb f2 s2 hf2 hs2 a2 b2 ha2 hb2 id ip zip hp port W ht).mono fun e W' ⟨he, bel⟩ => ?_
  subst he
  exact ⟨_, rfl, _, _, _, [], _, [], hW', trodAll_mk1 (shut_bool Tryd.underlying4 _), (trodAll_cons_mk (Below.trod laidOut (by kernel_rfl) (of_decide_eq_true (by kernel_rfl)) k0 bel lt0) (trodAll_cons_mk (Below.trod laidOut (by kernel_rfl) (of_decide_eq_true (by kernel_rfl)) k1 bel lt1) (trodAll_cons_mk (Below.trod laidOut (by kernel_rfl) (of_decide_eq_true (by kernel_rfl)) k2 bel lt2) trodAll_mk0))), rfl, bel.frame _, fun h => by cases h⟩

theorem over : Rows.KeySidesSaid :=
  OpenClaim.holds_of_wide 8 Tryd.f8 rfl rfl rfl rfl rfl rfl rfl ⟨rfl, rfl, rfl, rfl, rfl⟩ rfl rfl rfl rfl rfl (by kernel_rfl) Tryd.func8 (by kernel_rfl)
    (of_decide_eq_true (by kernel_rfl)) (by unfold Func.isWrapper; first | (rw [if_pos (by decide +kernel)]; kernel_rfl) | (rw [if_neg (by decide +kernel)]; exact ⟨rfl, rfl⟩))
    (fun os started H enc _ => lifted os started H enc)

theorem proved : Rows.KeySidesCardSaid :=
  Claim7.holds_tied_plain_at .later [] [.data, .data] true _ false
    over (fun _ h => by cases h) (by kernel_rfl) (fun _ h => by cases h) keySides_row_tie rfl ⟨rfl, rfl⟩ (by kernel_rfl) rfl
    (fun f fn hf hfn => by
      obtain rfl : f = 8 := Option.some.inj ((show Tryd.prog.funcNamed "plait/plaitlaw08.KeySides" = some 8 by kernel_rfl).symm.trans hf) |>.symm
      obtain rfl : fn = Tryd.f8 := (Option.some.inj (Tryd.func8.symm.trans hfn)).symm
      exact ⟨by kernel_rfl, fun j t ht => by
        rw [Tryd.params8] at ht
        have hm : t ∈ ([30, 30, 38] : List TypeId) := by simpa using Array.mem_of_getElem? ht
        have hall : (([30, 30, 38] : List TypeId).all fun u => !Tryd.prog.wantsStandIn u) = true := by kernel_rfl
        exact (show Tryd.prog.wantsStandIn t = false by simpa using List.all_eq_true.1 hall t hm)⟩)
    (by kernel_rfl)
#print axioms proved
end Go.Proofs.YtcbakfnpbhgjoaaDoor.keySides
