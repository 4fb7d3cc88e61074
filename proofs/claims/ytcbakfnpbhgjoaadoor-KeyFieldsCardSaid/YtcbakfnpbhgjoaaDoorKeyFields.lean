/-
  Of an address nothing counts but Id's lowest eight bits, Ip, and, with HasPort, Port's lowest sixteen (statement KeyFields, promise P8.3), of all pairs of keys, and addresses, without condition but the tables' own initial values, which the card ties to the program's text.
-/
import Derived.Test.YtcbakfnpbhgjoaaDoorKeyBits
namespace Go.Proofs.YtcbakfnpbhgjoaaDoor.keyFields
open Go.ChangeShapes Go.WideShapes Go.ChangeAt Go.RowKit
set_option linter.unusedVariables false

/-- A front of a text, 100 bytes at most. -/
theorem front (s : ByteArray) : ∃ (m : Nat) (z : ByteArray), z = s.extract 0 m ∧ z.size = m ∧ (if (100 : Int) < (s.size : Int) then (100 : Int) else (s.size : Int)) = (m : Int) ∧ (m : Int) ≤ s.size ∧ m ≤ 100 := by
  refine ⟨min s.size 100, _, rfl, ?_, ?_, ?_, ?_⟩
  · rw [ByteArray.size_extract]; omega
  · split <;> omega
  · omega
  · omega

theorem put_none (a : Act) (v : Value) : a.put none v = a := rfl
theorem conv_i64_u8 (n : Int) (i : Nat) (h : n % 256 = (i : Int)) (w : World) : (convert 3 5 (.int .i64 n)).run Tryd.prog w = .ok (.int .u8 (i : Int)) w := by
  rw [run_convert_int w 3 5 .i64 _ (by kernel_rfl) (by kernel_rfl), show Tryd.prog.intKind 5 = .u8 by kernel_rfl, IntKind.wrap_u8, h]

/-- The blocks that the law's variables lie in: the pair, and four addresses. -/
structure Kept (w : World) (gp gx gy g7 g8 : Nat) (PC XC YC C7 C8 : Array Value) (V : World) : Prop where
  p : Blk V gp 30 PC
  x : Blk V gx 38 XC
  y : Blk V gy 38 YC
  a : Blk V g7 38 C7
  b : Blk V g8 38 C8
  bel : Below w.heap.size w V
theorem Kept.below {w V V' : World} {gp gx gy g7 g8 : Nat} {PC XC YC C7 C8 : Array Value} (h : Kept w gp gx gy g7 g8 PC XC YC C7 C8 V) (q : Below V.heap.size V V') : Kept w gp gx gy g7 g8 PC XC YC C7 C8 V' :=
  ⟨Blk.below h.p q (Blk.lt h.p), Blk.below h.x q (Blk.lt h.x), Blk.below h.y q (Blk.lt h.y), Blk.below h.a q (Blk.lt h.a), Blk.below h.b q (Blk.lt h.b), h.bel.trans (q.mono h.bel.size)⟩

set_option maxHeartbeats 2000000 in
set_option maxRecDepth 100000 in
theorem walk (f s : Nat) (hf : f ≤ 18446744073709551615) (hs : s ≤ 18446744073709551615) (a b : Nat) (id : Int) (ip : ByteArray) (zip : ip.size ≤ 140737488351232) (h : Bool) (port : Int) (w : World) (ht : Tbl w) :
    Calls Tryd.prog 7 #[.agg #[.int .u64 (f : Int), .int .u64 (s : Int), .int .u32 (a : Int), .int .u32 (b : Int)], adr id ip h port] w fun e w' => e = .returned (.bool true) ∧ Below w.heap.size w w' := by
  obtain ⟨z32, hz32⟩ : ∃ z32, z32 = byv (List.replicate 32 0) := ⟨_, rfl⟩
  have hdz := digest_zero
  rw [← hz32] at hdz
  have HZK := Lib.hid (show DOk z32 by rw [hz32]; exact dok_zero)
  obtain ⟨m0, F, hF, nF, mF, lF, uF⟩ := front ip
  obtain ⟨i, hi⟩ : ∃ i : Nat, id % 256 = (i : Int) := ⟨(id % 256).toNat, by omega⟩
  obtain ⟨p, hp⟩ : ∃ p : Nat, (if h then port % 65536 else 0) = (p : Int) := ⟨(if h then port % 65536 else 0).toNat, by cases h <;> simp <;> omega⟩
  have i0 : i ≤ 255 := by omega
  have p0 : p ≤ 65535 := by cases h <;> simp at hp <;> omega
  obtain ⟨T, hT⟩ : ∃ T, T = txt (told f s i F.data.toList p) := ⟨_, rfl⟩
  have hTs : T.size = 8 := by rw [hT]; simp [ByteArray.size, told, mac_length]
  obtain ⟨R, hR⟩ : ∃ R, R = txt (told f s i F.data.toList 0) := ⟨_, rfl⟩
  obtain ⟨E, hE⟩ : ∃ E, E = byv (mac f s (addr i F.data.toList p)) := ⟨_, rfl⟩
  have HEK := Lib.hid (show DOk E by rw [hE]; exact dok _ (mac_length _ _ _))
  have HTR := Lib.hid (show ∀ W, Calls Tryd.prog 30 #[.agg E, .int .i64 8] W fun e w' => e = .returned (.string T) ∧ Below W.heap.size W w' from fun W => by
    have q := Right_any (mac f s (addr i F.data.toList p)) (mac_length _ _ _) 8 (by decide) (by decide) W
    rw [← hE, show 32 - cl 8 = 24 from rfl, show txt ((mac f s (addr i F.data.toList p)).drop 24) = T by rw [hT, told]] at q
    exact q)
  have fs : F.size ≤ 100 := by omega
  obtain ⟨I, hI⟩ : ∃ T, T = txt (be 1 i) := ⟨_, rfl⟩
  have hIs : I.size = 1 := by rw [hI]; exact be_len 1 i
  obtain ⟨J, hJ⟩ : ∃ J, J = I ++ F := ⟨_, rfl⟩
  have hJs : J.size ≤ 101 := by rw [hJ, ByteArray.size_append]; omega
  obtain ⟨X, hX⟩ : ∃ X, X = J ++ txt (be 2 p) := ⟨_, rfl⟩
  have hXs : X.size ≤ 103 := by rw [hX, ByteArray.size_append, be_len]; omega
  have hXd : X.data.toList = addr i F.data.toList p := by rw [hX, hJ, hI, addr]; simp
  obtain ⟨FF, hFF⟩ : ∃ T, T = txt (be 8 f) := ⟨_, rfl⟩
  obtain ⟨SS, hSS⟩ : ∃ T, T = txt (be 8 s) := ⟨_, rfl⟩
  obtain ⟨K, hK⟩ : ∃ K, K = FF ++ SS := ⟨_, rfl⟩
  have hFs : FF.size = 8 := by rw [hFF]; exact be_len 8 f
  have hSs : SS.size = 8 := by rw [hSS]; exact be_len 8 s
  have hKs : K.size = 16 := by rw [hK, ByteArray.size_append]; omega
  have HEC := Lib.hid (show E = byv (code K.data.toList X.data.toList) by rw [hE, hXd, hK, hFF, hSS, mac]; simp)
  have HPI := Lib.hid (show (⟨#[]⟩ : ByteArray) ++ ⟨(be 1 i).toArray⟩ = I by rw [none_and, hI])
  have HPX := Lib.hid (show J ++ ⟨(be 2 p).toArray⟩ = X from hX.symm)
  have HF := Lib.hid hFF
  have HS := Lib.hid hSS
  have HKE := Lib.hid hK
  have HJE := Lib.hid hJ
  have HTT := Lib.hid hT
  have HRR := Lib.hid hR
  have HI := Lib.hid hi
  have HP := Lib.hid hp
  obtain ⟨ia, hia⟩ : ∃ ia : Int, ia = id % 256 := ⟨_, rfl⟩
  obtain ⟨pa, hpa⟩ : ∃ pa : Int, pa = port % 65536 := ⟨_, rfl⟩
  have HIA := Lib.hid (show bits .and .i64 id 255 = ia by rw [hia]; exact low8 id)
  have HPA := Lib.hid (show bits .and .i64 port 65535 = pa by rw [hpa]; exact low16 port)
  have HI2 := Lib.hid (show ia % 256 = (i : Int) by omega)
  have HP2 := Lib.hid (show (if h then pa % 65536 else 0) = (p : Int) by rw [← hp, hpa]; cases h <;> simp)
  obtain ⟨w0, hw0⟩ : ∃ w0, w0 = w.alloc (.cells #[.int .u64 (f : Int), .int .u64 (s : Int), .int .u32 (a : Int), .int .u32 (b : Int)] 30) := ⟨_, rfl⟩
  have s0 : w0.heap.size = w.heap.size + 1 := by rw [hw0]; exact World.size_alloc _ _
  have n0 : Blk w0 w.heap.size 30 #[.int .u64 (f : Int), .int .u64 (s : Int), .int .u32 (a : Int), .int .u32 (b : Int)] := by rw [hw0]; exact Blk.new _ _ _
  have b0 : Below w.heap.size w w0 := by rw [hw0]; exact (Below.refl _ _).alloc (Nat.le_refl _) _
  obtain ⟨w1, hw1⟩ : ∃ w1, w1 = w0.alloc (.cells #[.int .i64 id, .string ip, .bool h, .int .i64 port] 38) := ⟨_, rfl⟩
  obtain ⟨gx, hgx⟩ : ∃ gx, gx = w.heap.size + 1 := ⟨_, rfl⟩
  have n1 : Blk w1 gx 38 #[.int .i64 id, .string ip, .bool h, .int .i64 port] := by rw [hw1, hgx, ← s0]; exact Blk.new _ _ _
  have b1 : Below w0.heap.size w0 w1 := by rw [hw1]; exact (Below.refl _ _).alloc (Nat.le_refl _) _
  have HB1 := Lib.hid (b0.trans (b1.mono b0.size))
  have HT := Lib.hid ht
  have HPP := Lib.hid (n0.below b1 n0.lt)
  have HXX := Lib.hid n1
  have HGL := Lib.hid (show w.heap.size < gx by omega)
  have s0x : w0.heap.size = gx := by omega
  have ew0 := hw0.symm
  have ew1 := hw1.symm
  have eF := hF.symm
  have n100 : min (ip.size : Int) 100 = (m0 : Int) := by split at mF <;> omega
  have m100 : min (100 : Int) (ip.size : Int) = (m0 : Int) := by split at mF <;> omega
  clear hz32 ht hi hp hT hR hE hI hJ hX hXd hFF hSS hK hia hpa hw0 n0 b0 hw1 n1 b1 hgx hF s0
  go_enter Tryd.func7, Tryd.ntmps7
  go_wp2_with fail
  refine (works_t w1 (HT.out.below HB1.out)).mono ?_
  rintro e W1 ⟨rfl, bw⟩
  have nx := HXX.out.below bw HXX.out.lt
  have np := HPP.out.below bw HPP.out.lt
  have c1 := nx.cell 1
  have f1 := Blk.frozen nx 1
  have HB2 := Lib.hid (HB1.out.trans (bw.mono HB1.out.size))
  obtain ⟨W2, hW2⟩ : ∃ W2, W2 = W1.setCell ⟨gx, 1, none⟩ (.string F) := ⟨_, rfl⟩
  have HW2 := Lib.hid hW2
  have HX2 := Lib.hid (show Blk W2 gx 38 #[.int .i64 id, .string F, .bool h, .int .i64 port] by rw [hW2]; exact blk_put nx 1 _)
  have HP2B := Lib.hid (show Blk W2 w.heap.size 30 #[.int .u64 (f : Int), .int .u64 (s : Int), .int .u32 (a : Int), .int .u32 (b : Int)] by rw [hW2]; exact blk_other np (by have := HGL.out; show w.heap.size ≠ gx; omega) _)
  have HB2W := Lib.hid (show Below w.heap.size w W2 by rw [hW2]; exact HB2.out.setCell (by have := HGL.out; show w.heap.size ≤ gx; omega) _)
  clear bw np hW2 HXX HPP ew0 ew1 s0x HB1 HB2
  go_upto_region 4 with fail
  rw [← HW2.out]
  have c0 := HP2B.out.cell 0
  have c1' := HP2B.out.cell 1
  clear HW2 nx c1 f1 eF n100 m100 mF lF uF
  go_wp2_with (refine wpList_load_row rfl 38 (.tmp 3) rfl gx rfl 38 #[.int .i64 id, .string F, .bool h, .int .i64 port] (0, 0) _ HX2.out Tryd.underlying38 rfl (by kernel_rfl) ?_)
  refine (Address_any f s hf hs id F (by omega) h port i p HI.out HP.out T HTT.out W2 (HT.out.below HB2W.out)).mono ?_
  rintro e W3 ⟨rfl, b3⟩
  have HX3 := Lib.hid (HX2.out.below b3 HX2.out.lt)
  have HPP3 := Lib.hid (HP2B.out.below b3 HP2B.out.lt)
  have HB3 := Lib.hid (HB2W.out.trans (b3.mono HB2W.out.size))
  clear b3 HX2 HP2B HB2W c0 c1'
  go_upto_region 6 with (refine wpList_load_row rfl 38 (.tmp 3) rfl gx rfl 38 #[.int .i64 id, .string F, .bool h, .int .i64 port] (0, 0) _ HX3.out Tryd.underlying38 rfl (by kernel_rfl) ?_)
  obtain ⟨V, hV⟩ : ∃ V, V = W3.alloc (.cells #[.int .i64 id, .string F, .bool h, .int .i64 port] 38) := ⟨_, rfl⟩
  obtain ⟨gy, hgy⟩ : ∃ gy, gy = W3.heap.size := ⟨_, rfl⟩
  rw [← hV, ← hgy]
  have bv : Below W3.heap.size W3 V := by rw [hV]; exact (Below.refl _ _).alloc (Nat.le_refl _) _
  have HXV := Lib.hid (HX3.out.below bv HX3.out.lt)
  have HPV := Lib.hid (HPP3.out.below bv HPP3.out.lt)
  have HBV := Lib.hid (HB3.out.trans (bv.mono HB3.out.size))
  have HYV := Lib.hid (show Blk V gy 38 #[.int .i64 id, .string F, .bool h, .int .i64 port] by rw [hV, hgy]; exact Blk.new _ _ _)
  have HXY := Lib.hid (show gx < gy by rw [hgy]; exact HX3.out.lt)
  have HPY := Lib.hid (show w.heap.size < gy by rw [hgy]; exact HPP3.out.lt)
  clear hV hgy bv HX3 HPP3 HB3 HGL
  have BW : Below gy V V.drew := (Below.refl _ V).drew
  refine walk_start 9 (fun W => Below gy V W) (by kernel_rfl) (n := 10) rfl ?_
  obtain ⟨W4, hW4⟩ : ∃ W4, W4 = V.drew := ⟨_, rfl⟩
  have y4 : Blk W4 gy 38 #[.int .i64 id, .string F, .bool h, .int .i64 port] := by rw [hW4]; exact HYV.out
  rw [← hW4] at BW ⊢
  clear hW4
  refine walk_free 0 (.pointer (some ⟨gx, 0, none⟩)) rfl (by kernel_rfl) (by kernel_rfl) (by kernel_rfl) (by kernel_rfl) (by kernel_rfl) (by kernel_rfl) BW (fun _ _ => ex_field (v := .pointer (some ⟨gx, 0, none⟩)) 38 (.tmp 3) 0 (by kernel_rfl) (by kernel_rfl) (by kernel_rfl)) ?_
  refine walk_free 1 (.int .i64 id) rfl (by kernel_rfl) (by kernel_rfl) (by kernel_rfl) (by kernel_rfl) (by kernel_rfl) (by kernel_rfl) BW (fun W b => ex_load 3 (.tmp 29) (by kernel_rfl) ⟨gx, 0, none⟩ (by kernel_rfl) (by kernel_rfl) (Blk.cell (show Blk W gx 38 _ from (b.block gx HXY.out).trans HXV.out) 0)) ?_
  refine walk_free 2 (.int .i64 ia) rfl (by kernel_rfl) (by kernel_rfl) (by kernel_rfl) (by kernel_rfl) (by kernel_rfl) (by kernel_rfl) BW (fun _ _ => ex_and 3 3 (.tmp 30) (.const (.int .i64 255)) (by kernel_rfl) id 255 ia (by kernel_rfl) (by kernel_rfl) (by kernel_rfl) HIA.out) ?_
  refine walk_free 3 (.pointer (some ⟨gx, 3, none⟩)) rfl (by kernel_rfl) (by kernel_rfl) (by kernel_rfl) (by kernel_rfl) (by kernel_rfl) (by kernel_rfl) BW (fun _ _ => ex_field (v := .pointer (some ⟨gx, 0, none⟩)) 38 (.tmp 3) 3 (by kernel_rfl) (by kernel_rfl) (by kernel_rfl)) ?_
  refine walk_free 4 (.int .i64 port) rfl (by kernel_rfl) (by kernel_rfl) (by kernel_rfl) (by kernel_rfl) (by kernel_rfl) (by kernel_rfl) BW (fun W b => ex_load 3 (.tmp 32) (by kernel_rfl) ⟨gx, 3, none⟩ (by kernel_rfl) (by kernel_rfl) (Blk.cell (show Blk W gx 38 _ from (b.block gx HXY.out).trans HXV.out) 3)) ?_
  refine walk_free 5 (.int .i64 pa) rfl (by kernel_rfl) (by kernel_rfl) (by kernel_rfl) (by kernel_rfl) (by kernel_rfl) (by kernel_rfl) BW (fun _ _ => ex_and 3 3 (.tmp 33) (.const (.int .i64 65535)) (by kernel_rfl) port 65535 pa (by kernel_rfl) (by kernel_rfl) (by kernel_rfl) HPA.out) ?_
  refine walk_free 6 (.pointer (some ⟨gy, 0, none⟩)) rfl (by kernel_rfl) (by kernel_rfl) (by kernel_rfl) (by kernel_rfl) (by kernel_rfl) (by kernel_rfl) BW (fun _ _ => ex_field (v := .pointer (some ⟨gy, 0, none⟩)) 38 (.tmp 6) 0 (by kernel_rfl) (by kernel_rfl) (by kernel_rfl)) ?_
  obtain ⟨W5, hW5⟩ : ∃ W5, W5 = W4.setCell ⟨gy, 0, none⟩ (.int .i64 ia) := ⟨_, rfl⟩
  have B5 : Below gy V W5 := by rw [hW5]; exact BW.setCell (Nat.le_refl _) _
  have y5 : Blk W5 gy 38 #[.int .i64 ia, .string F, .bool h, .int .i64 port] := by rw [hW5]; exact blk_put y4 0 _
  refine walk_one 7 (by kernel_rfl) (do_skip (w' := W5) 7 rfl (by kernel_rfl) (by rw [hW5]; exact ex_store_cell 3 (.tmp 35) (.tmp 31) (by kernel_rfl) ⟨gy, 0, none⟩ (.int .i64 ia) (by kernel_rfl) (by kernel_rfl) (store_int W4 gy 0 id ia (Blk.cell y4 0) (Blk.frozen y4 0))) B5 ?_)
  clear hW5 y4 BW
  refine walk_free 8 (.pointer (some ⟨gy, 3, none⟩)) rfl (by kernel_rfl) (by kernel_rfl) (by kernel_rfl) (by kernel_rfl) (by kernel_rfl) (by kernel_rfl) B5 (fun _ _ => ex_field (v := .pointer (some ⟨gy, 0, none⟩)) 38 (.tmp 6) 3 (by kernel_rfl) (by kernel_rfl) (by kernel_rfl)) ?_
  obtain ⟨W6, hW6⟩ : ∃ W6, W6 = W5.setCell ⟨gy, 3, none⟩ (.int .i64 pa) := ⟨_, rfl⟩
  have B6 : Below gy V W6 := by rw [hW6]; exact B5.setCell (Nat.le_refl _) _
  have y6 : Blk W6 gy 38 #[.int .i64 ia, .string F, .bool h, .int .i64 pa] := by rw [hW6]; exact blk_put y5 3 _
  refine walk_one 9 (by kernel_rfl) (do_last (w' := W6) 9 rfl (by kernel_rfl) (by rw [hW6]; exact ex_store_cell 3 (.tmp 36) (.tmp 34) (by kernel_rfl) ⟨gy, 3, none⟩ (.int .i64 pa) (by kernel_rfl) (by kernel_rfl) (store_int W5 gy 3 port pa (Blk.cell y5 3) (Blk.frozen y5 3))) (by kernel_rfl) ?_)
  clear hW6 y5 B5
  refine walk_end_at ⟨#[Value.agg #[Value.int IntKind.u64 ↑f, Value.int IntKind.u64 ↑s, Value.int IntKind.u32 ↑a, Value.int IntKind.u32 ↑b], adr id ip h port, Value.pointer (some { block := w.heap.size, off := 0 }), Value.pointer (some { block := gx, off := 0 }), Value.bool false, Value.string T, Value.pointer (some { block := gy, off := 0 }), undef, undef, undef, undef, undef, Value.bool true, Value.bool false, Value.pointer (some { block := gx, off := 1 }), Value.string ip, Value.pointer (some { block := gx, off := 1 }), Value.string ip, Value.int IntKind.i64 ↑ip.size, Value.int IntKind.i64 ↑m0, Value.string F, Value.pointer (some { block := gx, off := 1 }), Value.pointer (some { block := w.heap.size, off := 0 }), Value.int IntKind.u64 ↑f, Value.pointer (some { block := w.heap.size, off := 1 }), Value.int IntKind.u64 ↑s, Value.agg #[Value.int IntKind.i64 id, Value.string F, Value.bool h, Value.int IntKind.i64 port], Value.string T, Value.agg #[Value.int IntKind.i64 id, Value.string F, Value.bool h, Value.int IntKind.i64 port], .pointer (some ⟨gx, 0, none⟩), .int .i64 id, .int .i64 ia, .pointer (some ⟨gx, 3, none⟩), .int .i64 port, .int .i64 pa, .pointer (some ⟨gy, 0, none⟩), .pointer (some ⟨gy, 3, none⟩), undef, undef, undef, undef, undef, undef, undef, undef, undef, undef, undef, undef, undef, undef, undef, undef, undef, undef, undef, undef, undef, undef, undef, undef, undef, undef, undef, undef, undef, undef, undef, undef, undef, undef, undef, undef, undef, undef, undef, undef, undef, undef, undef, undef, undef, undef, undef, undef, undef, undef, undef, undef, undef, undef, undef, undef, undef, undef, undef, undef, undef, undef], []⟩ (by kernel_rfl) (by kernel_rfl) ?_
  have HX6 := Lib.hid (show Blk W6 gx 38 #[.int .i64 id, .string F, .bool h, .int .i64 port] from (B6.block gx HXY.out).trans HXV.out)
  have HP6 := Lib.hid (show Blk W6 w.heap.size 30 #[.int .u64 (f : Int), .int .u64 (s : Int), .int .u32 (a : Int), .int .u32 (b : Int)] from (B6.block w.heap.size HPY.out).trans HPV.out)
  have HY6 := Lib.hid y6
  have HB6 := Lib.hid (HBV.out.trans (B6.mono (Nat.le_of_lt HPY.out)))
  clear y6 B6 HXV HPV HYV HBV HXY HPY HIA HPA
  go_upto_region 7 with fail
  go_cut [7, 8] (fun x y wx => ∃ g7 g8 : Nat, x = .pointer (some ⟨g7, 0, none⟩) ∧ y = .pointer (some ⟨g8, 0, none⟩) ∧ g7 ≠ g8 ∧ W6.heap.size ≤ g7 ∧ W6.heap.size ≤ g8 ∧ Blk wx g7 38 #[.int .i64 id, .string F, .bool h, .int .i64 port] ∧ Blk wx g8 38 #[.int .i64 id, .string F, .bool h, .int .i64 port] ∧ Below W6.heap.size W6 wx)
  case first =>
    have BW : Below W6.heap.size W6 W6.drew := (Below.refl _ W6).drew
    refine walk_start 5 (fun W => Below W6.heap.size W6 W) (by kernel_rfl) (n := 6) rfl ?_
    obtain ⟨Y0, hY0⟩ : ∃ Y0, Y0 = W6.drew := ⟨_, rfl⟩
    rw [← hY0] at BW ⊢
    clear hY0
    refine walk_free 0 (.agg #[.int .i64 id, .string F, .bool h, .int .i64 port]) rfl (by kernel_rfl) (by kernel_rfl) (by kernel_rfl) (by kernel_rfl) (by kernel_rfl) (by kernel_rfl) BW (fun W b => exec_row_ 38 (.tmp 3) (by kernel_rfl) (gx) (by kernel_rfl) 38 _ (0, 0) _ (HX6.out.below b HX6.out.lt) Tryd.underlying38 rfl (by kernel_rfl)) ?_
    refine walk_free 1 (.agg #[.int .i64 id, .string F, .bool h, .int .i64 port]) rfl (by kernel_rfl) (by kernel_rfl) (by kernel_rfl) (by kernel_rfl) (by kernel_rfl) (by kernel_rfl) BW (fun W b => exec_row_ 38 (.tmp 3) (by kernel_rfl) (gx) (by kernel_rfl) 38 _ (0, 0) _ (HX6.out.below b HX6.out.lt) Tryd.underlying38 rfl (by kernel_rfl)) ?_
    obtain ⟨Y1, hY1⟩ : ∃ Y1, Y1 = Y0.alloc (.cells #[.int .i64 0, .string ⟨#[]⟩, .bool false, .int .i64 0] 38) := ⟨_, rfl⟩
    obtain ⟨Y2, hY2⟩ : ∃ Y2, Y2 = Y1.alloc (.cells #[.int .i64 0, .string ⟨#[]⟩, .bool false, .int .i64 0] 38) := ⟨_, rfl⟩
    obtain ⟨u, hu⟩ : ∃ u, u = Y0.heap.size := ⟨_, rfl⟩
    obtain ⟨v, hv⟩ : ∃ v, v = Y1.heap.size := ⟨_, rfl⟩
    have euv : v = u + 1 := by rw [hv, hY1, World.size_alloc, hu]
    have m1 : Blk Y1 u 38 #[.int .i64 0, .string ⟨#[]⟩, .bool false, .int .i64 0] := by rw [hY1, hu]; exact Blk.new _ _ _
    have m2 : Blk Y2 v 38 #[.int .i64 0, .string ⟨#[]⟩, .bool false, .int .i64 0] := by rw [hY2, hv]; exact Blk.new _ _ _
    have m12 : Blk Y2 u 38 #[.int .i64 0, .string ⟨#[]⟩, .bool false, .int .i64 0] := by rw [hY2]; exact Blk.alloc m1 _
    have D1 : Below W6.heap.size W6 Y1 := by rw [hY1]; exact BW.alloc BW.size _
    have D2 : Below W6.heap.size W6 Y2 := by rw [hY2]; exact D1.alloc D1.size _
    have lu : W6.heap.size ≤ u := by rw [hu]; exact BW.size
    have a0 : ∀ o : Oper, o.op = .alloc 38 → ∀ ρ, (execOp ρ o).run Tryd.prog Y0 = .ok (.value (.pointer (some ⟨u, 0, none⟩))) Y1 := fun o ho ρ => by rw [hY1, hu]; exact ex_alloc _ _ ho addr_zero
    have a1 : ∀ o : Oper, o.op = .alloc 38 → ∀ ρ, (execOp ρ o).run Tryd.prog Y1 = .ok (.value (.pointer (some ⟨v, 0, none⟩))) Y2 := fun o ho ρ => by rw [hY2, hv]; exact ex_alloc _ _ ho addr_zero
    clear hY1 hY2 hu hv
    refine walk_two 2 3 (by kernel_rfl) ?_ ?_
    · refine do_lone (v := .pointer (some ⟨u, 0, none⟩)) (w' := Y1) 2 rfl (by kernel_rfl) (a0 _ (by kernel_rfl) _) D1 ?_
      refine walk_one 3 (by kernel_rfl) (do_lone (v := .pointer (some ⟨v, 0, none⟩)) (w' := Y2) 3 rfl (by kernel_rfl) (a1 _ (by kernel_rfl) _) D2 ?_)
      obtain ⟨Y3, hY3⟩ : ∃ Y3, Y3 = Y2.setRow u #[.int .i64 id, .string F, .bool h, .int .i64 port] := ⟨_, rfl⟩
      have D3 : Below W6.heap.size W6 Y3 := by rw [hY3]; exact below_setRow D2 (by omega) _
      have s7 : Blk Y3 u 38 #[.int .i64 id, .string F, .bool h, .int .i64 port] := by rw [hY3]; exact setRow_heap _ _ _ _ _ _ m12
      have s8 : Blk Y3 v 38 #[.int .i64 0, .string ⟨#[]⟩, .bool false, .int .i64 0] := by rw [hY3]; exact (setRow_other _ _ _ _ (by omega)).trans m2
      refine walk_one 4 (by kernel_rfl) (do_skip (w' := Y3) 4 rfl (by kernel_rfl) (by rw [hY3]; exact ex_store_row 38 (.tmp 7) (.tmp 37) (by kernel_rfl) u #[.int .i64 id, .string F, .bool h, .int .i64 port] (by kernel_rfl) (by kernel_rfl) 38 #[.int .i64 0, .string ⟨#[]⟩, .bool false, .int .i64 0] m12 (by kernel_rfl) rfl (by kernel_rfl)) D3 ?_)
      obtain ⟨Y4, hY4⟩ : ∃ Y4, Y4 = Y3.setRow v #[.int .i64 id, .string F, .bool h, .int .i64 port] := ⟨_, rfl⟩
      refine walk_one 5 (by kernel_rfl) (do_last (w' := Y4) 5 rfl (by kernel_rfl) (by rw [hY4]; exact ex_store_row 38 (.tmp 8) (.tmp 38) (by kernel_rfl) v #[.int .i64 id, .string F, .bool h, .int .i64 port] (by kernel_rfl) (by kernel_rfl) 38 #[.int .i64 0, .string ⟨#[]⟩, .bool false, .int .i64 0] s8 (by kernel_rfl) rfl (by kernel_rfl)) (by kernel_rfl) ?_)
      refine walk_end_at ⟨#[Value.agg #[Value.int IntKind.u64 ↑f, Value.int IntKind.u64 ↑s, Value.int IntKind.u32 ↑a, Value.int IntKind.u32 ↑b], adr id ip h port, Value.pointer (some { block := w.heap.size, off := 0 }), Value.pointer (some { block := gx, off := 0 }), Value.bool false, Value.string T, Value.pointer (some { block := gy, off := 0 }), .pointer (some ⟨u, 0, none⟩), .pointer (some ⟨v, 0, none⟩), undef, undef, undef, Value.bool true, Value.bool false, Value.pointer (some { block := gx, off := 1 }), Value.string ip, Value.pointer (some { block := gx, off := 1 }), Value.string ip, Value.int IntKind.i64 ↑ip.size, Value.int IntKind.i64 ↑m0, Value.string F, Value.pointer (some { block := gx, off := 1 }), Value.pointer (some { block := w.heap.size, off := 0 }), Value.int IntKind.u64 ↑f, Value.pointer (some { block := w.heap.size, off := 1 }), Value.int IntKind.u64 ↑s, Value.agg #[Value.int IntKind.i64 id, Value.string F, Value.bool h, Value.int IntKind.i64 port], Value.string T, Value.agg #[Value.int IntKind.i64 id, Value.string F, Value.bool h, Value.int IntKind.i64 port], Value.pointer (some { block := gx, off := 0 }), Value.int IntKind.i64 id, Value.int IntKind.i64 ia, Value.pointer (some { block := gx, off := 3 }), Value.int IntKind.i64 port, Value.int IntKind.i64 pa, Value.pointer (some { block := gy, off := 0 }), Value.pointer (some { block := gy, off := 3 }), .agg #[.int .i64 id, .string F, .bool h, .int .i64 port], .agg #[.int .i64 id, .string F, .bool h, .int .i64 port], undef, undef, undef, undef, undef, undef, undef, undef, undef, undef, undef, undef, undef, undef, undef, undef, undef, undef, undef, undef, undef, undef, undef, undef, undef, undef, undef, undef, undef, undef, undef, undef, undef, undef, undef, undef, undef, undef, undef, undef, undef, undef, undef, undef, undef, undef, undef, undef, undef, undef, undef, undef, undef, undef, undef, undef, undef, undef, undef, undef], []⟩ (by kernel_rfl) (by kernel_rfl) ?_
      have HE := Lib.hid (show u ≠ v ∧ W6.heap.size ≤ u ∧ W6.heap.size ≤ v ∧ Blk Y4 u 38 #[.int .i64 id, .string F, .bool h, .int .i64 port] ∧ Blk Y4 v 38 #[.int .i64 id, .string F, .bool h, .int .i64 port] ∧ Below W6.heap.size W6 Y4 from ⟨by omega, by omega, by omega, by rw [hY4]; exact (setRow_other _ _ _ _ (by omega)).trans s7, by rw [hY4]; exact setRow_heap _ _ _ _ _ _ s8, by rw [hY4]; exact below_setRow D3 (by omega) _⟩)
      clear hY3 hY4 s7 s8 D1 D2 D3 m1 m2 m12 a0 a1 BW
      go_wp2_with fail
      go_meet
      exact ⟨u, v, rfl, rfl, HE.out⟩
    · refine do_lone (v := .pointer (some ⟨u, 0, none⟩)) (w' := Y1) 3 rfl (by kernel_rfl) (a0 _ (by kernel_rfl) _) D1 ?_
      refine walk_one 2 (by kernel_rfl) (do_lone (v := .pointer (some ⟨v, 0, none⟩)) (w' := Y2) 2 rfl (by kernel_rfl) (a1 _ (by kernel_rfl) _) D2 ?_)
      obtain ⟨Y3, hY3⟩ : ∃ Y3, Y3 = Y2.setRow v #[.int .i64 id, .string F, .bool h, .int .i64 port] := ⟨_, rfl⟩
      have D3 : Below W6.heap.size W6 Y3 := by rw [hY3]; exact below_setRow D2 (by omega) _
      have s7 : Blk Y3 v 38 #[.int .i64 id, .string F, .bool h, .int .i64 port] := by rw [hY3]; exact setRow_heap _ _ _ _ _ _ m2
      have s8 : Blk Y3 u 38 #[.int .i64 0, .string ⟨#[]⟩, .bool false, .int .i64 0] := by rw [hY3]; exact (setRow_other _ _ _ _ (by omega)).trans m12
      refine walk_one 4 (by kernel_rfl) (do_skip (w' := Y3) 4 rfl (by kernel_rfl) (by rw [hY3]; exact ex_store_row 38 (.tmp 7) (.tmp 37) (by kernel_rfl) v #[.int .i64 id, .string F, .bool h, .int .i64 port] (by kernel_rfl) (by kernel_rfl) 38 #[.int .i64 0, .string ⟨#[]⟩, .bool false, .int .i64 0] m2 (by kernel_rfl) rfl (by kernel_rfl)) D3 ?_)
      obtain ⟨Y4, hY4⟩ : ∃ Y4, Y4 = Y3.setRow u #[.int .i64 id, .string F, .bool h, .int .i64 port] := ⟨_, rfl⟩
      refine walk_one 5 (by kernel_rfl) (do_last (w' := Y4) 5 rfl (by kernel_rfl) (by rw [hY4]; exact ex_store_row 38 (.tmp 8) (.tmp 38) (by kernel_rfl) u #[.int .i64 id, .string F, .bool h, .int .i64 port] (by kernel_rfl) (by kernel_rfl) 38 #[.int .i64 0, .string ⟨#[]⟩, .bool false, .int .i64 0] s8 (by kernel_rfl) rfl (by kernel_rfl)) (by kernel_rfl) ?_)
      refine walk_end_at ⟨#[Value.agg #[Value.int IntKind.u64 ↑f, Value.int IntKind.u64 ↑s, Value.int IntKind.u32 ↑a, Value.int IntKind.u32 ↑b], adr id ip h port, Value.pointer (some { block := w.heap.size, off := 0 }), Value.pointer (some { block := gx, off := 0 }), Value.bool false, Value.string T, Value.pointer (some { block := gy, off := 0 }), .pointer (some ⟨v, 0, none⟩), .pointer (some ⟨u, 0, none⟩), undef, undef, undef, Value.bool true, Value.bool false, Value.pointer (some { block := gx, off := 1 }), Value.string ip, Value.pointer (some { block := gx, off := 1 }), Value.string ip, Value.int IntKind.i64 ↑ip.size, Value.int IntKind.i64 ↑m0, Value.string F, Value.pointer (some { block := gx, off := 1 }), Value.pointer (some { block := w.heap.size, off := 0 }), Value.int IntKind.u64 ↑f, Value.pointer (some { block := w.heap.size, off := 1 }), Value.int IntKind.u64 ↑s, Value.agg #[Value.int IntKind.i64 id, Value.string F, Value.bool h, Value.int IntKind.i64 port], Value.string T, Value.agg #[Value.int IntKind.i64 id, Value.string F, Value.bool h, Value.int IntKind.i64 port], Value.pointer (some { block := gx, off := 0 }), Value.int IntKind.i64 id, Value.int IntKind.i64 ia, Value.pointer (some { block := gx, off := 3 }), Value.int IntKind.i64 port, Value.int IntKind.i64 pa, Value.pointer (some { block := gy, off := 0 }), Value.pointer (some { block := gy, off := 3 }), .agg #[.int .i64 id, .string F, .bool h, .int .i64 port], .agg #[.int .i64 id, .string F, .bool h, .int .i64 port], undef, undef, undef, undef, undef, undef, undef, undef, undef, undef, undef, undef, undef, undef, undef, undef, undef, undef, undef, undef, undef, undef, undef, undef, undef, undef, undef, undef, undef, undef, undef, undef, undef, undef, undef, undef, undef, undef, undef, undef, undef, undef, undef, undef, undef, undef, undef, undef, undef, undef, undef, undef, undef, undef, undef, undef, undef, undef, undef, undef], []⟩ (by kernel_rfl) (by kernel_rfl) ?_
      have HE := Lib.hid (show v ≠ u ∧ W6.heap.size ≤ v ∧ W6.heap.size ≤ u ∧ Blk Y4 v 38 #[.int .i64 id, .string F, .bool h, .int .i64 port] ∧ Blk Y4 u 38 #[.int .i64 id, .string F, .bool h, .int .i64 port] ∧ Below W6.heap.size W6 Y4 from ⟨by omega, by omega, by omega, by rw [hY4]; exact (setRow_other _ _ _ _ (by omega)).trans s7, by rw [hY4]; exact setRow_heap _ _ _ _ _ _ s8, by rw [hY4]; exact below_setRow D3 (by omega) _⟩)
      clear hY3 hY4 s7 s8 D1 D2 D3 m1 m2 m12 a0 a1 BW
      go_wp2_with fail
      go_meet
      exact ⟨v, u, rfl, rfl, HE.out⟩
  case rest =>
    obtain ⟨g7, g8, rfl, rfl, hne, hl7, hl8, n7, n8, hb7⟩ := hcut
    obtain ⟨V8, hV8⟩ : ∃ V8, V8 = wc := ⟨_, rfl⟩
    rw [← hV8] at n7 n8 hb7 ⊢
    have k8 : Kept w w.heap.size gx gy g7 g8 #[.int .u64 (f : Int), .int .u64 (s : Int), .int .u32 (a : Int), .int .u32 (b : Int)] #[.int .i64 id, .string F, .bool h, .int .i64 port] #[.int .i64 ia, .string F, .bool h, .int .i64 pa] #[.int .i64 id, .string F, .bool h, .int .i64 port] #[.int .i64 id, .string F, .bool h, .int .i64 port] V8 :=
      ⟨HP6.out.below hb7 HP6.out.lt, HX6.out.below hb7 HX6.out.lt, HY6.out.below hb7 HY6.out.lt, n7, n8, HB6.out.trans (hb7.mono HB6.out.size)⟩
    have HNE := Lib.hid (show g7 ≠ g8 ∧ w.heap.size ≠ g7 ∧ w.heap.size ≠ g8 ∧ gx ≠ g7 ∧ gx ≠ g8 ∧ gy ≠ g7 ∧ gy ≠ g8 ∧ w.heap.size ≤ g7 ∧ w.heap.size ≤ g8 by
      have h1 := HP6.out.lt; have h2 := HX6.out.lt; have h3 := HY6.out.lt; have h4 := HB6.out.size; omega)
    have HK8 := Lib.hid k8
    obtain ⟨X1, hX1⟩ : ∃ X1, X1 = V8.setCell ⟨g7, 2, none⟩ (.bool false) := ⟨_, rfl⟩
    obtain ⟨X2, hX2⟩ : ∃ X2, X2 = X1.setCell ⟨g8, 2, none⟩ (.bool true) := ⟨_, rfl⟩
    obtain ⟨X3, hX3⟩ : ∃ X3, X3 = X2.setCell ⟨g8, 3, none⟩ (.int .i64 0) := ⟨_, rfl⟩
    have q7 : Blk X1 g7 38 #[.int .i64 id, .string F, .bool false, .int .i64 port] := by rw [hX1]; exact blk_put n7 2 _
    have q8 : Blk X1 g8 38 #[.int .i64 id, .string F, .bool h, .int .i64 port] := by rw [hX1]; exact blk_other n8 (fun e => hne e.symm) _
    have r8 : Blk X2 g8 38 #[.int .i64 id, .string F, .bool true, .int .i64 port] := by rw [hX2]; exact blk_put q8 2 _
    have t8 : Blk X3 g8 38 #[.int .i64 id, .string F, .bool true, .int .i64 0] := by rw [hX3]; exact blk_put r8 3 _
    have t7 : Blk X3 g7 38 #[.int .i64 id, .string F, .bool false, .int .i64 port] := by rw [hX3, hX2]; exact blk_other (blk_other q7 hne _) hne _
    have tx : Blk X3 gx 38 #[.int .i64 id, .string F, .bool h, .int .i64 port] := by rw [hX3, hX2, hX1]; exact blk_other (blk_other (blk_other k8.x HNE.out.2.2.2.1 _) HNE.out.2.2.2.2.1 _) HNE.out.2.2.2.2.1 _
    have HK := Lib.hid (show Kept w w.heap.size gx gy g7 g8 #[.int .u64 (f : Int), .int .u64 (s : Int), .int .u32 (a : Int), .int .u32 (b : Int)] #[.int .i64 id, .string F, .bool h, .int .i64 port] #[.int .i64 ia, .string F, .bool h, .int .i64 pa] #[.int .i64 id, .string F, .bool false, .int .i64 port] #[.int .i64 id, .string F, .bool true, .int .i64 0] X3 from
      ⟨by rw [hX3, hX2, hX1]; exact blk_other (blk_other (blk_other k8.p HNE.out.2.1 _) HNE.out.2.2.1 _) HNE.out.2.2.1 _, tx, by rw [hX3, hX2, hX1]; exact blk_other (blk_other (blk_other k8.y HNE.out.2.2.2.2.2.1 _) HNE.out.2.2.2.2.2.2.1 _) HNE.out.2.2.2.2.2.2.1 _, t7, t8,
        by rw [hX3, hX2, hX1]; exact ((k8.bel.setCell HNE.out.2.2.2.2.2.2.2.1 _).setCell HNE.out.2.2.2.2.2.2.2.2 _).setCell HNE.out.2.2.2.2.2.2.2.2 _⟩)
    have c72 := Blk.cell n7 2
    have f72 := Blk.frozen n7 2
    have c82 := Blk.cell q8 2
    have f82 := Blk.frozen q8 2
    have c83 := Blk.cell r8 3
    have f83 := Blk.frozen r8 3
    have cx2 := Blk.cell tx 2
    have cx3 := Blk.cell tx 3
    have ew1 := hX1.symm
    have ew2 := hX2.symm
    have ew3 := hX3.symm
    clear hne hl7 hl8 n7 n8 hb7 hV8 k8 hX1 hX2 hX3 q7 q8 r8 t7 t8 tx HK8 HP6 HX6 HY6 HB6
    go_upto_if 43 with fail
    go_cut [9] (fun x wx => x = .int .u16 (p : Int) ∧ wx = X3)
    case first =>
      cases h
      · have ep : (0 : Int) = (p : Int) := by simpa using HP.out
        go_wp2_with fail
        go_meet
        exact ⟨by rw [ep], rfl⟩
      · have ep : port % 65536 = (p : Int) := by simpa using HP.out
        go_wp2_with fail
        go_meet
        exact ⟨by rw [IntKind.wrap_u16, ep], rfl⟩
    case rest =>
      obtain ⟨rfl, hx⟩ := hcut
      obtain ⟨V, hV⟩ : ∃ V, V = wc := ⟨_, rfl⟩
      rw [← hV]
      rw [← hx, ← hV] at HK
      have HKV := HK
      have HPV := Lib.hid HK.out.p
      have HXV := Lib.hid HK.out.x
      have HTV := Lib.hid (HT.out.below HK.out.bel)
      clear c72 f72 c82 f82 c83 f83 cx2 cx3 ew1 ew2 ew3 hx hV HK
      go_upto_region 12 with fail
      go_cut [10] (fun x wx => x = .string X ∧ Below V.heap.size V wx)
      case first =>
        have B0 : Below V.heap.size V V.drew := (Below.refl _ V).drew
        refine held_start (fun W => Below V.heap.size V W) (by kernel_rfl) (n := 10) rfl ?_
        obtain ⟨W0, hW0⟩ : ∃ W0, W0 = V.drew := ⟨_, rfl⟩
        rw [← hW0] at B0 ⊢
        clear hW0
        refine held_free 0 (.pointer (some ⟨gx, 0, none⟩)) rfl (by kernel_rfl) (by kernel_rfl) (by kernel_rfl) (by kernel_rfl) B0 (fun _ _ => ex_field (v := .pointer (some ⟨gx, 0, none⟩)) 38 (.tmp 3) 0 (by kernel_rfl) (by kernel_rfl) (by kernel_rfl)) ?_
        refine held_free 1 (.int .i64 id) rfl (by kernel_rfl) (by kernel_rfl) (by kernel_rfl) (by kernel_rfl) B0 (fun W b => ex_load 3 (.tmp 47) (by kernel_rfl) ⟨gx, 0, none⟩ (by kernel_rfl) (by kernel_rfl) ((HXV.out.below b HXV.out.lt).cell 0)) ?_
        refine held_free 2 (.int .u8 (i : Int)) rfl (by kernel_rfl) (by kernel_rfl) (by kernel_rfl) (by kernel_rfl) B0 (fun W _ => ex_convert_to (v := .int .i64 id) 3 5 (.tmp 48) (by kernel_rfl) (by kernel_rfl) (conv_i64_u8 id i HI.out W)) ?_
        refine held_free 4 (.pointer (some ⟨gx, 1, none⟩)) rfl (by kernel_rfl) (by kernel_rfl) (by kernel_rfl) (by kernel_rfl) B0 (fun _ _ => ex_field (v := .pointer (some ⟨gx, 0, none⟩)) 38 (.tmp 3) 1 (by kernel_rfl) (by kernel_rfl) (by kernel_rfl)) ?_
        refine held_free 5 (.string F) rfl (by kernel_rfl) (by kernel_rfl) (by kernel_rfl) (by kernel_rfl) B0 (fun W b => ex_load 9 (.tmp 51) (by kernel_rfl) ⟨gx, 1, none⟩ (by kernel_rfl) (by kernel_rfl) ((HXV.out.below b HXV.out.lt).cell 1)) ?_
        refine held_free 7 (.int .u16 (p : Int)) rfl (by kernel_rfl) (by kernel_rfl) (by kernel_rfl) (by kernel_rfl) B0 (fun _ _ => by kernel_rfl) ?_
        refine held_call 3 rfl (by kernel_rfl) (by kernel_rfl) (by kernel_rfl) (answer (Put8_any ⟨#[]⟩ i _ (by decide) i0) (congrArg Value.string HPI.out)) (fun w' h => bel_in B0 h) ?_
        intro W1 hW1
        have B1 := bel_in B0 hW1
        clear hW1 B0
        refine held_free 6 (.string J) rfl (by kernel_rfl) (by kernel_rfl) (by kernel_rfl) (by kernel_rfl) B1 (fun _ _ => ex_strcat 9 9 (.tmp 50) (.tmp 52) (by kernel_rfl) (I) (F) J (by kernel_rfl) (by kernel_rfl) (by omega) (by omega) HJE.out) ?_
        refine held_call 8 rfl (by kernel_rfl) (by kernel_rfl) (by kernel_rfl) (answer (Put16_any J p _ (by omega) p0) (congrArg Value.string HPX.out)) (fun w' h => bel_in B1 h) ?_
        intro W2 hW2
        have B2 := bel_in B1 hW2
        clear hW2 B1
        refine held_free 9 (.string X) rfl (by kernel_rfl) (by kernel_rfl) (by kernel_rfl) (by kernel_rfl) B2 (fun _ _ => by kernel_rfl) ?_
        refine held_end_at ⟨#[Value.agg #[Value.int IntKind.u64 ↑f, Value.int IntKind.u64 ↑s, Value.int IntKind.u32 ↑a, Value.int IntKind.u32 ↑b], adr id ip h port, Value.pointer (some { block := w.heap.size, off := 0 }), .pointer (some ⟨gx, 0, none⟩), Value.bool false, Value.string T, Value.pointer (some { block := gy, off := 0 }), Value.pointer (some { block := g7, off := 0 }), Value.pointer (some { block := g8, off := 0 }), .int .u16 (p : Int), .string X, undef, u12, u13, u14, u15, u16, u17, u18, u19, u20, u21, u22, u23, u24, u25, u26, u27, u28, u29, u30, u31, u32, u33, u34, u35, u36, u37, u38, u39, u40, u41, u42, u43, u44, u45, u46, .pointer (some ⟨gx, 0, none⟩), .int .i64 id, .int .u8 (i : Int), .string I, .pointer (some ⟨gx, 1, none⟩), .string F, .string J, .int .u16 (p : Int), .string X, u56, u57, u58, u59, u60, u61, u62, u63, u64, u65, u66, u67, u68, u69, u70, u71, u72, u73, u74, u75, u76, u77, u78, u79, u80, u81, u82, u83, u84, u85, u86, u87, u88, u89, u90, u91, u92, u93, u94, u95, u96, u97, u98], []⟩ (by kernel_rfl) (by kernel_rfl) ?_
        go_wp2_with fail
        go_meet
        exact ⟨rfl, B2⟩
      case rest =>
        obtain ⟨rfl, hb12⟩ := hcut
        obtain ⟨V2, hV2⟩ : ∃ V2, V2 = wc := ⟨_, rfl⟩
        rw [← hV2] at hb12 ⊢
        have HKW := Lib.hid (HKV.out.below hb12)
        have HPW := Lib.hid HKW.out.p
        have HTW := Lib.hid (HT.out.below HKW.out.bel)
        have HMO := Lib.hid (show z32.size = E.size by rw [HZK.out.size, HEK.out.size])
        clear hb12 hV2 HKV HPV HXV HTV
        go_upto_region 13 with fail
        go_cut [11] (fun x wx => ∃ gm, x = .pointer (some ⟨gm, 0, none⟩) ∧ V2.heap.size ≤ gm ∧ Blk wx gm 32 E ∧ Below V2.heap.size V2 wx)
        case first =>
          have B0 : Below V2.heap.size V2 V2.drew := (Below.refl _ V2).drew
          refine walk_start 10 (fun W => Below V2.heap.size V2 W) (by kernel_rfl) (n := 11) rfl ?_
          obtain ⟨W0, hW0⟩ : ∃ W0, W0 = V2.drew := ⟨_, rfl⟩
          rw [← hW0] at B0 ⊢
          clear hW0
          refine walk_free 0 (.pointer (some ⟨w.heap.size, 0, none⟩)) rfl (by kernel_rfl) (by kernel_rfl) (by kernel_rfl) (by kernel_rfl) (by kernel_rfl) (by kernel_rfl) B0 (fun _ _ => ex_field (v := .pointer (some ⟨w.heap.size, 0, none⟩)) 30 (.tmp 2) 0 (by kernel_rfl) (by kernel_rfl) (by kernel_rfl)) ?_
          refine walk_free 1 (.int .u64 (f : Int)) rfl (by kernel_rfl) (by kernel_rfl) (by kernel_rfl) (by kernel_rfl) (by kernel_rfl) (by kernel_rfl) B0 (fun W b => ex_load 22 (.tmp 56) (by kernel_rfl) ⟨w.heap.size, 0, none⟩ (by kernel_rfl) (by kernel_rfl) ((HPW.out.below b HPW.out.lt).cell 0)) ?_
          refine walk_free 3 (.pointer (some ⟨w.heap.size, 1, none⟩)) rfl (by kernel_rfl) (by kernel_rfl) (by kernel_rfl) (by kernel_rfl) (by kernel_rfl) (by kernel_rfl) B0 (fun _ _ => ex_field (v := .pointer (some ⟨w.heap.size, 0, none⟩)) 30 (.tmp 2) 1 (by kernel_rfl) (by kernel_rfl) (by kernel_rfl)) ?_
          refine walk_free 4 (.int .u64 (s : Int)) rfl (by kernel_rfl) (by kernel_rfl) (by kernel_rfl) (by kernel_rfl) (by kernel_rfl) (by kernel_rfl) B0 (fun W b => ex_load 22 (.tmp 59) (by kernel_rfl) ⟨w.heap.size, 1, none⟩ (by kernel_rfl) (by kernel_rfl) ((HPW.out.below b HPW.out.lt).cell 1)) ?_
          refine walk_free 7 (.string X) rfl (by kernel_rfl) (by kernel_rfl) (by kernel_rfl) (by kernel_rfl) (by kernel_rfl) (by kernel_rfl) B0 (fun _ _ => by kernel_rfl) ?_
          refine walk_two 2 9 (by kernel_rfl) ?_ ?_
          · refine do_call 2 rfl (by kernel_rfl) (by kernel_rfl) (Bytes_any f hf FF HF.out _) (fun w' h => bel_in B0 h) ?_
            intro W1 hW1
            have B1 := bel_in B0 hW1
            clear hW1 B0
            refine walk_two 5 9 (by kernel_rfl) ?_ ?_
            · refine do_call 5 rfl (by kernel_rfl) (by kernel_rfl) (Bytes_any s hs SS HS.out _) (fun w' h => bel_in B1 h) ?_
              intro W2 hW2
              have B2 := bel_in B1 hW2
              clear hW2 B1
              refine walk_free 6 (.string K) rfl (by kernel_rfl) (by kernel_rfl) (by kernel_rfl) (by kernel_rfl) (by kernel_rfl) (by kernel_rfl) B2 (fun _ _ => ex_strcat 9 9 (.tmp 58) (.tmp 61) (by kernel_rfl) (FF) (SS) K (by kernel_rfl) (by kernel_rfl) (by omega) (by omega) HKE.out) ?_
              refine walk_two 8 9 (by kernel_rfl) ?_ ?_
              · refine do_call 8 rfl (by kernel_rfl) (by kernel_rfl) (Of_any K X E HEC.out _ (HTW.out.below B2) (by omega) (by omega)) (fun w' h => bel_in B2 h) ?_
                intro W3 hW3
                have B3 := bel_in B2 hW3
                clear hW3 B2
                obtain ⟨W4, hW4⟩ : ∃ w', w' = W3.alloc (.cells z32 32) := ⟨_, rfl⟩
                have N4_4 : Blk W4 W3.heap.size 32 z32 := by rw [hW4]; exact Blk.new _ _ _
                have B4 : Below V2.heap.size V2 W4 := by rw [hW4]; exact B3.alloc B3.size _
                have L4 : V2.heap.size ≤ W3.heap.size := B3.size
                refine walk_one 9 (by kernel_rfl) (do_lone (v := .pointer (some ⟨W3.heap.size, 0, none⟩)) (w' := W4) 9 rfl (by kernel_rfl) (by rw [hW4]; exact ex_alloc 32 z32 (by kernel_rfl) hdz) B4 ?_)
                clear hW4
                refine walk_one 10 (by kernel_rfl) (do_last 10 rfl (by kernel_rfl) (ex_store_row 32 (.tmp 11) (.tmp 64) (by kernel_rfl) (W3.heap.size) E (by kernel_rfl) (by kernel_rfl) 32 z32 N4_4 HEK.out.info HMO.out HEK.out.one) (by kernel_rfl) ?_)
                refine walk_end_at ⟨#[Value.agg #[Value.int IntKind.u64 ↑f, Value.int IntKind.u64 ↑s, Value.int IntKind.u32 ↑a, Value.int IntKind.u32 ↑b], adr id ip h port, .pointer (some ⟨w.heap.size, 0, none⟩), Value.pointer (some { block := gx, off := 0 }), Value.bool false, Value.string T, Value.pointer (some { block := gy, off := 0 }), Value.pointer (some { block := g7, off := 0 }), Value.pointer (some { block := g8, off := 0 }), Value.int IntKind.u16 ↑p, .string X, .pointer (some ⟨W3.heap.size, 0, none⟩), u12, u13, u14, u15, u16, u17, u18, u19, u20, u21, u22, u23, u24, u25, u26, u27, u28, u29, u30, u31, u32, u33, u34, u35, u36, u37, u38, u39, u40, u41, u42, u43, u44, u45, u46, u47, u48, u49, u50, u51, u52, u53, u54, u55, .pointer (some ⟨w.heap.size, 0, none⟩), .int .u64 (f : Int), .string FF, .pointer (some ⟨w.heap.size, 1, none⟩), .int .u64 (s : Int), .string SS, .string K, .string X, .agg E, u65, u66, u67, u68, u69, u70, u71, u72, u73, u74, u75, u76, u77, u78, u79, u80, u81, u82, u83, u84, u85, u86, u87, u88, u89, u90, u91, u92, u93, u94, u95, u96, u97, u98], []⟩ (by kernel_rfl) (by kernel_rfl) ?_
                have HE := Lib.hid (show V2.heap.size ≤ W3.heap.size ∧ Blk (W4.setRow W3.heap.size E) W3.heap.size 32 E ∧ Below V2.heap.size V2 (W4.setRow W3.heap.size E) from ⟨L4, setRow_heap _ _ _ _ _ _ N4_4, below_setRow B4 L4 E⟩)
                clear N4_4
                go_wp2_with fail
                go_meet
                exact ⟨_, rfl, HE.out⟩
              · obtain ⟨W3, hW3⟩ : ∃ w', w' = W2.alloc (.cells z32 32) := ⟨_, rfl⟩
                have N3_3 : Blk W3 W2.heap.size 32 z32 := by rw [hW3]; exact Blk.new _ _ _
                have B3 : Below V2.heap.size V2 W3 := by rw [hW3]; exact B2.alloc B2.size _
                have L3 : V2.heap.size ≤ W2.heap.size := B2.size
                refine do_lone (v := .pointer (some ⟨W2.heap.size, 0, none⟩)) (w' := W3) 9 rfl (by kernel_rfl) (by rw [hW3]; exact ex_alloc 32 z32 (by kernel_rfl) hdz) B3 ?_
                clear hW3
                refine walk_one 8 (by kernel_rfl) (do_call 8 rfl (by kernel_rfl) (by kernel_rfl) (Of_any K X E HEC.out _ (HTW.out.below B3) (by omega) (by omega)) (fun w' h => bel_in B3 h) ?_)
                intro W4 hW4
                have B4 := bel_in B3 hW4
                have N3_4 := N3_3.below hW4 N3_3.lt
                clear hW4 B3 N3_3
                refine walk_one 10 (by kernel_rfl) (do_last 10 rfl (by kernel_rfl) (ex_store_row 32 (.tmp 11) (.tmp 64) (by kernel_rfl) (W2.heap.size) E (by kernel_rfl) (by kernel_rfl) 32 z32 N3_4 HEK.out.info HMO.out HEK.out.one) (by kernel_rfl) ?_)
                refine walk_end_at ⟨#[Value.agg #[Value.int IntKind.u64 ↑f, Value.int IntKind.u64 ↑s, Value.int IntKind.u32 ↑a, Value.int IntKind.u32 ↑b], adr id ip h port, .pointer (some ⟨w.heap.size, 0, none⟩), Value.pointer (some { block := gx, off := 0 }), Value.bool false, Value.string T, Value.pointer (some { block := gy, off := 0 }), Value.pointer (some { block := g7, off := 0 }), Value.pointer (some { block := g8, off := 0 }), Value.int IntKind.u16 ↑p, .string X, .pointer (some ⟨W2.heap.size, 0, none⟩), u12, u13, u14, u15, u16, u17, u18, u19, u20, u21, u22, u23, u24, u25, u26, u27, u28, u29, u30, u31, u32, u33, u34, u35, u36, u37, u38, u39, u40, u41, u42, u43, u44, u45, u46, u47, u48, u49, u50, u51, u52, u53, u54, u55, .pointer (some ⟨w.heap.size, 0, none⟩), .int .u64 (f : Int), .string FF, .pointer (some ⟨w.heap.size, 1, none⟩), .int .u64 (s : Int), .string SS, .string K, .string X, .agg E, u65, u66, u67, u68, u69, u70, u71, u72, u73, u74, u75, u76, u77, u78, u79, u80, u81, u82, u83, u84, u85, u86, u87, u88, u89, u90, u91, u92, u93, u94, u95, u96, u97, u98], []⟩ (by kernel_rfl) (by kernel_rfl) ?_
                have HE := Lib.hid (show V2.heap.size ≤ W2.heap.size ∧ Blk (W4.setRow W2.heap.size E) W2.heap.size 32 E ∧ Below V2.heap.size V2 (W4.setRow W2.heap.size E) from ⟨L3, setRow_heap _ _ _ _ _ _ N3_4, below_setRow B4 L3 E⟩)
                clear N3_4
                go_wp2_with fail
                go_meet
                exact ⟨_, rfl, HE.out⟩
            · obtain ⟨W2, hW2⟩ : ∃ w', w' = W1.alloc (.cells z32 32) := ⟨_, rfl⟩
              have N2_2 : Blk W2 W1.heap.size 32 z32 := by rw [hW2]; exact Blk.new _ _ _
              have B2 : Below V2.heap.size V2 W2 := by rw [hW2]; exact B1.alloc B1.size _
              have L2 : V2.heap.size ≤ W1.heap.size := B1.size
              refine do_lone (v := .pointer (some ⟨W1.heap.size, 0, none⟩)) (w' := W2) 9 rfl (by kernel_rfl) (by rw [hW2]; exact ex_alloc 32 z32 (by kernel_rfl) hdz) B2 ?_
              clear hW2
              refine walk_one 5 (by kernel_rfl) (do_call 5 rfl (by kernel_rfl) (by kernel_rfl) (Bytes_any s hs SS HS.out _) (fun w' h => bel_in B2 h) ?_)
              intro W3 hW3
              have B3 := bel_in B2 hW3
              have N2_3 := N2_2.below hW3 N2_2.lt
              clear hW3 B2 N2_2
              refine walk_free 6 (.string K) rfl (by kernel_rfl) (by kernel_rfl) (by kernel_rfl) (by kernel_rfl) (by kernel_rfl) (by kernel_rfl) B3 (fun _ _ => ex_strcat 9 9 (.tmp 58) (.tmp 61) (by kernel_rfl) (FF) (SS) K (by kernel_rfl) (by kernel_rfl) (by omega) (by omega) HKE.out) ?_
              refine walk_one 8 (by kernel_rfl) (do_call 8 rfl (by kernel_rfl) (by kernel_rfl) (Of_any K X E HEC.out _ (HTW.out.below B3) (by omega) (by omega)) (fun w' h => bel_in B3 h) ?_)
              intro W4 hW4
              have B4 := bel_in B3 hW4
              have N2_4 := N2_3.below hW4 N2_3.lt
              clear hW4 B3 N2_3
              refine walk_one 10 (by kernel_rfl) (do_last 10 rfl (by kernel_rfl) (ex_store_row 32 (.tmp 11) (.tmp 64) (by kernel_rfl) (W1.heap.size) E (by kernel_rfl) (by kernel_rfl) 32 z32 N2_4 HEK.out.info HMO.out HEK.out.one) (by kernel_rfl) ?_)
              refine walk_end_at ⟨#[Value.agg #[Value.int IntKind.u64 ↑f, Value.int IntKind.u64 ↑s, Value.int IntKind.u32 ↑a, Value.int IntKind.u32 ↑b], adr id ip h port, .pointer (some ⟨w.heap.size, 0, none⟩), Value.pointer (some { block := gx, off := 0 }), Value.bool false, Value.string T, Value.pointer (some { block := gy, off := 0 }), Value.pointer (some { block := g7, off := 0 }), Value.pointer (some { block := g8, off := 0 }), Value.int IntKind.u16 ↑p, .string X, .pointer (some ⟨W1.heap.size, 0, none⟩), u12, u13, u14, u15, u16, u17, u18, u19, u20, u21, u22, u23, u24, u25, u26, u27, u28, u29, u30, u31, u32, u33, u34, u35, u36, u37, u38, u39, u40, u41, u42, u43, u44, u45, u46, u47, u48, u49, u50, u51, u52, u53, u54, u55, .pointer (some ⟨w.heap.size, 0, none⟩), .int .u64 (f : Int), .string FF, .pointer (some ⟨w.heap.size, 1, none⟩), .int .u64 (s : Int), .string SS, .string K, .string X, .agg E, u65, u66, u67, u68, u69, u70, u71, u72, u73, u74, u75, u76, u77, u78, u79, u80, u81, u82, u83, u84, u85, u86, u87, u88, u89, u90, u91, u92, u93, u94, u95, u96, u97, u98], []⟩ (by kernel_rfl) (by kernel_rfl) ?_
              have HE := Lib.hid (show V2.heap.size ≤ W1.heap.size ∧ Blk (W4.setRow W1.heap.size E) W1.heap.size 32 E ∧ Below V2.heap.size V2 (W4.setRow W1.heap.size E) from ⟨L2, setRow_heap _ _ _ _ _ _ N2_4, below_setRow B4 L2 E⟩)
              clear N2_4
              go_wp2_with fail
              go_meet
              exact ⟨_, rfl, HE.out⟩
          · obtain ⟨W1, hW1⟩ : ∃ w', w' = W0.alloc (.cells z32 32) := ⟨_, rfl⟩
            have N1_1 : Blk W1 W0.heap.size 32 z32 := by rw [hW1]; exact Blk.new _ _ _
            have B1 : Below V2.heap.size V2 W1 := by rw [hW1]; exact B0.alloc B0.size _
            have L1 : V2.heap.size ≤ W0.heap.size := B0.size
            refine do_lone (v := .pointer (some ⟨W0.heap.size, 0, none⟩)) (w' := W1) 9 rfl (by kernel_rfl) (by rw [hW1]; exact ex_alloc 32 z32 (by kernel_rfl) hdz) B1 ?_
            clear hW1
            refine walk_one 2 (by kernel_rfl) (do_call 2 rfl (by kernel_rfl) (by kernel_rfl) (Bytes_any f hf FF HF.out _) (fun w' h => bel_in B1 h) ?_)
            intro W2 hW2
            have B2 := bel_in B1 hW2
            have N1_2 := N1_1.below hW2 N1_1.lt
            clear hW2 B1 N1_1
            refine walk_one 5 (by kernel_rfl) (do_call 5 rfl (by kernel_rfl) (by kernel_rfl) (Bytes_any s hs SS HS.out _) (fun w' h => bel_in B2 h) ?_)
            intro W3 hW3
            have B3 := bel_in B2 hW3
            have N1_3 := N1_2.below hW3 N1_2.lt
            clear hW3 B2 N1_2
            refine walk_free 6 (.string K) rfl (by kernel_rfl) (by kernel_rfl) (by kernel_rfl) (by kernel_rfl) (by kernel_rfl) (by kernel_rfl) B3 (fun _ _ => ex_strcat 9 9 (.tmp 58) (.tmp 61) (by kernel_rfl) (FF) (SS) K (by kernel_rfl) (by kernel_rfl) (by omega) (by omega) HKE.out) ?_
            refine walk_one 8 (by kernel_rfl) (do_call 8 rfl (by kernel_rfl) (by kernel_rfl) (Of_any K X E HEC.out _ (HTW.out.below B3) (by omega) (by omega)) (fun w' h => bel_in B3 h) ?_)
            intro W4 hW4
            have B4 := bel_in B3 hW4
            have N1_4 := N1_3.below hW4 N1_3.lt
            clear hW4 B3 N1_3
            refine walk_one 10 (by kernel_rfl) (do_last 10 rfl (by kernel_rfl) (ex_store_row 32 (.tmp 11) (.tmp 64) (by kernel_rfl) (W0.heap.size) E (by kernel_rfl) (by kernel_rfl) 32 z32 N1_4 HEK.out.info HMO.out HEK.out.one) (by kernel_rfl) ?_)
            refine walk_end_at ⟨#[Value.agg #[Value.int IntKind.u64 ↑f, Value.int IntKind.u64 ↑s, Value.int IntKind.u32 ↑a, Value.int IntKind.u32 ↑b], adr id ip h port, .pointer (some ⟨w.heap.size, 0, none⟩), Value.pointer (some { block := gx, off := 0 }), Value.bool false, Value.string T, Value.pointer (some { block := gy, off := 0 }), Value.pointer (some { block := g7, off := 0 }), Value.pointer (some { block := g8, off := 0 }), Value.int IntKind.u16 ↑p, .string X, .pointer (some ⟨W0.heap.size, 0, none⟩), u12, u13, u14, u15, u16, u17, u18, u19, u20, u21, u22, u23, u24, u25, u26, u27, u28, u29, u30, u31, u32, u33, u34, u35, u36, u37, u38, u39, u40, u41, u42, u43, u44, u45, u46, u47, u48, u49, u50, u51, u52, u53, u54, u55, .pointer (some ⟨w.heap.size, 0, none⟩), .int .u64 (f : Int), .string FF, .pointer (some ⟨w.heap.size, 1, none⟩), .int .u64 (s : Int), .string SS, .string K, .string X, .agg E, u65, u66, u67, u68, u69, u70, u71, u72, u73, u74, u75, u76, u77, u78, u79, u80, u81, u82, u83, u84, u85, u86, u87, u88, u89, u90, u91, u92, u93, u94, u95, u96, u97, u98], []⟩ (by kernel_rfl) (by kernel_rfl) ?_
            have HE := Lib.hid (show V2.heap.size ≤ W0.heap.size ∧ Blk (W4.setRow W0.heap.size E) W0.heap.size 32 E ∧ Below V2.heap.size V2 (W4.setRow W0.heap.size E) from ⟨L1, setRow_heap _ _ _ _ _ _ N1_4, below_setRow B4 L1 E⟩)
            clear N1_4
            go_wp2_with fail
            go_meet
            exact ⟨_, rfl, HE.out⟩
        case rest =>
          obtain ⟨gm, rfl, hgm, hkm, hb13⟩ := hcut
          obtain ⟨V3, hV3⟩ : ∃ V3, V3 = wc := ⟨_, rfl⟩
          rw [← hV3] at hb13 hkm ⊢
          have HKX := Lib.hid (HKW.out.below hb13)
          have HKM := Lib.hid hkm
          have HPZ := Lib.hid HKX.out.p
          have HYZ := Lib.hid HKX.out.y
          have H7Z := Lib.hid HKX.out.a
          have H8Z := Lib.hid HKX.out.b
          have HTZ := Lib.hid (HT.out.below HKX.out.bel)
          have HTSZ := Lib.hid (show (T.size : Int) = 8 by rw [hTs]; rfl)
          clear hb13 hkm hV3 hgm HKW HPW HTW HMO
          go_upto_region 14 with fail
          have B0 : Below V3.heap.size V3 V3.drew := (Below.refl _ V3).drew
          refine held_start (fun W => Below V3.heap.size V3 W) (by kernel_rfl) (n := 35) rfl ?_
          obtain ⟨W0, hW0⟩ : ∃ W0, W0 = V3.drew := ⟨_, rfl⟩
          rw [← hW0] at B0 ⊢
          clear hW0
          refine held_free 0 (.string T) rfl (by kernel_rfl) (by kernel_rfl) (by kernel_rfl) (by kernel_rfl) B0 (fun _ _ => by kernel_rfl) ?_
          refine held_free 1 (.pointer (some ⟨w.heap.size, 0, none⟩)) rfl (by kernel_rfl) (by kernel_rfl) (by kernel_rfl) (by kernel_rfl) B0 (fun _ _ => ex_field (v := .pointer (some ⟨w.heap.size, 0, none⟩)) 30 (.tmp 2) 0 (by kernel_rfl) (by kernel_rfl) (by kernel_rfl)) ?_
          refine held_free 2 (.int .u64 (f : Int)) rfl (by kernel_rfl) (by kernel_rfl) (by kernel_rfl) (by kernel_rfl) B0 (fun W b => ex_load 22 (.tmp 66) (by kernel_rfl) ⟨w.heap.size, 0, none⟩ (by kernel_rfl) (by kernel_rfl) ((HPZ.out.below b HPZ.out.lt).cell 0)) ?_
          refine held_free 3 (.pointer (some ⟨w.heap.size, 1, none⟩)) rfl (by kernel_rfl) (by kernel_rfl) (by kernel_rfl) (by kernel_rfl) B0 (fun _ _ => ex_field (v := .pointer (some ⟨w.heap.size, 0, none⟩)) 30 (.tmp 2) 1 (by kernel_rfl) (by kernel_rfl) (by kernel_rfl)) ?_
          refine held_free 4 (.int .u64 (s : Int)) rfl (by kernel_rfl) (by kernel_rfl) (by kernel_rfl) (by kernel_rfl) B0 (fun W b => ex_load 22 (.tmp 68) (by kernel_rfl) ⟨w.heap.size, 1, none⟩ (by kernel_rfl) (by kernel_rfl) ((HPZ.out.below b HPZ.out.lt).cell 1)) ?_
          refine held_free 5 (.agg #[.int .i64 ia, .string F, .bool h, .int .i64 pa]) rfl (by kernel_rfl) (by kernel_rfl) (by kernel_rfl) (by kernel_rfl) B0 (fun W b => exec_row_ 38 (.tmp 6) (by kernel_rfl) (gy) (by kernel_rfl) 38 _ (0, 0) _ (HYZ.out.below b HYZ.out.lt) Tryd.underlying38 rfl (by kernel_rfl)) ?_
          refine held_call 6 rfl (by kernel_rfl) (by kernel_rfl) (by kernel_rfl) (Address_any f s hf hs ia F (by omega) h pa i p HI2.out HP2.out T HTT.out _ (HTZ.out.below B0)) (fun w' h => bel_in B0 h) ?_
          intro W1 hW1
          have B1 := bel_in B0 hW1
          clear hW1 B0
          refine held_free 7 (.bool true) rfl (by kernel_rfl) (by kernel_rfl) (by kernel_rfl) (by kernel_rfl) B1 (fun _ _ => ex_streq 9 9 (.tmp 65) (.tmp 71) (by kernel_rfl) (T) (T) (by kernel_rfl) (by kernel_rfl) (by kernel_rfl) rfl) ?_
          refine held_free 8 (.bool true) rfl (by kernel_rfl) (by kernel_rfl) (by kernel_rfl) (by kernel_rfl) B1 (fun _ _ => by kernel_rfl) ?_
          refine held_free 9 (.pointer (some ⟨w.heap.size, 0, none⟩)) rfl (by kernel_rfl) (by kernel_rfl) (by kernel_rfl) (by kernel_rfl) B1 (fun _ _ => ex_field (v := .pointer (some ⟨w.heap.size, 0, none⟩)) 30 (.tmp 2) 0 (by kernel_rfl) (by kernel_rfl) (by kernel_rfl)) ?_
          refine held_free 10 (.int .u64 (f : Int)) rfl (by kernel_rfl) (by kernel_rfl) (by kernel_rfl) (by kernel_rfl) B1 (fun W b => ex_load 22 (.tmp 74) (by kernel_rfl) ⟨w.heap.size, 0, none⟩ (by kernel_rfl) (by kernel_rfl) ((HPZ.out.below b HPZ.out.lt).cell 0)) ?_
          refine held_free 11 (.pointer (some ⟨w.heap.size, 1, none⟩)) rfl (by kernel_rfl) (by kernel_rfl) (by kernel_rfl) (by kernel_rfl) B1 (fun _ _ => ex_field (v := .pointer (some ⟨w.heap.size, 0, none⟩)) 30 (.tmp 2) 1 (by kernel_rfl) (by kernel_rfl) (by kernel_rfl)) ?_
          refine held_free 12 (.int .u64 (s : Int)) rfl (by kernel_rfl) (by kernel_rfl) (by kernel_rfl) (by kernel_rfl) B1 (fun W b => ex_load 22 (.tmp 76) (by kernel_rfl) ⟨w.heap.size, 1, none⟩ (by kernel_rfl) (by kernel_rfl) ((HPZ.out.below b HPZ.out.lt).cell 1)) ?_
          refine held_free 13 (.agg #[.int .i64 id, .string F, .bool false, .int .i64 port]) rfl (by kernel_rfl) (by kernel_rfl) (by kernel_rfl) (by kernel_rfl) B1 (fun W b => exec_row_ 38 (.tmp 7) (by kernel_rfl) (g7) (by kernel_rfl) 38 _ (0, 0) _ (H7Z.out.below b H7Z.out.lt) Tryd.underlying38 rfl (by kernel_rfl)) ?_
          refine held_free 15 (.pointer (some ⟨w.heap.size, 0, none⟩)) rfl (by kernel_rfl) (by kernel_rfl) (by kernel_rfl) (by kernel_rfl) B1 (fun _ _ => ex_field (v := .pointer (some ⟨w.heap.size, 0, none⟩)) 30 (.tmp 2) 0 (by kernel_rfl) (by kernel_rfl) (by kernel_rfl)) ?_
          refine held_free 16 (.int .u64 (f : Int)) rfl (by kernel_rfl) (by kernel_rfl) (by kernel_rfl) (by kernel_rfl) B1 (fun W b => ex_load 22 (.tmp 80) (by kernel_rfl) ⟨w.heap.size, 0, none⟩ (by kernel_rfl) (by kernel_rfl) ((HPZ.out.below b HPZ.out.lt).cell 0)) ?_
          refine held_free 17 (.pointer (some ⟨w.heap.size, 1, none⟩)) rfl (by kernel_rfl) (by kernel_rfl) (by kernel_rfl) (by kernel_rfl) B1 (fun _ _ => ex_field (v := .pointer (some ⟨w.heap.size, 0, none⟩)) 30 (.tmp 2) 1 (by kernel_rfl) (by kernel_rfl) (by kernel_rfl)) ?_
          refine held_free 18 (.int .u64 (s : Int)) rfl (by kernel_rfl) (by kernel_rfl) (by kernel_rfl) (by kernel_rfl) B1 (fun W b => ex_load 22 (.tmp 82) (by kernel_rfl) ⟨w.heap.size, 1, none⟩ (by kernel_rfl) (by kernel_rfl) ((HPZ.out.below b HPZ.out.lt).cell 1)) ?_
          refine held_free 19 (.agg #[.int .i64 id, .string F, .bool true, .int .i64 0]) rfl (by kernel_rfl) (by kernel_rfl) (by kernel_rfl) (by kernel_rfl) B1 (fun W b => exec_row_ 38 (.tmp 8) (by kernel_rfl) (g8) (by kernel_rfl) 38 _ (0, 0) _ (H8Z.out.below b H8Z.out.lt) Tryd.underlying38 rfl (by kernel_rfl)) ?_
          refine held_call 14 rfl (by kernel_rfl) (by kernel_rfl) (by kernel_rfl) (Address_any f s hf hs id F (by omega) false port i 0 HI.out rfl R HRR.out _ (HTZ.out.below B1)) (fun w' h => bel_in B1 h) ?_
          intro W2 hW2
          have B2 := bel_in B1 hW2
          clear hW2 B1
          refine held_call 20 rfl (by kernel_rfl) (by kernel_rfl) (by kernel_rfl) (Address_any f s hf hs id F (by omega) true 0 i 0 HI.out rfl R HRR.out _ (HTZ.out.below B2)) (fun w' h => bel_in B2 h) ?_
          intro W3 hW3
          have B3 := bel_in B2 hW3
          clear hW3 B2
          refine held_free 21 (.bool true) rfl (by kernel_rfl) (by kernel_rfl) (by kernel_rfl) (by kernel_rfl) B3 (fun _ _ => ex_streq 9 9 (.tmp 79) (.tmp 85) (by kernel_rfl) (R) (R) (by kernel_rfl) (by kernel_rfl) (by kernel_rfl) rfl) ?_
          refine held_free 22 (.bool true) rfl (by kernel_rfl) (by kernel_rfl) (by kernel_rfl) (by kernel_rfl) B3 (fun _ _ => by kernel_rfl) ?_
          refine held_free 23 (.bool true) rfl (by kernel_rfl) (by kernel_rfl) (by kernel_rfl) (by kernel_rfl) B3 (fun _ _ => by kernel_rfl) ?_
          refine held_free 24 (.string T) rfl (by kernel_rfl) (by kernel_rfl) (by kernel_rfl) (by kernel_rfl) B3 (fun _ _ => by kernel_rfl) ?_
          refine held_free 25 (.int .i64 (T.size : Int)) rfl (by kernel_rfl) (by kernel_rfl) (by kernel_rfl) (by kernel_rfl) B3 (fun _ _ => by kernel_rfl) ?_
          refine held_free 26 (.bool true) rfl (by kernel_rfl) (by kernel_rfl) (by kernel_rfl) (by kernel_rfl) B3 (fun _ _ => ex_inteq .i64 3 3 (.tmp 90) (.const (.int .i64 8)) (by kernel_rfl) ((T.size : Int)) (8) (by kernel_rfl) (by kernel_rfl) (by kernel_rfl) HTSZ.out) ?_
          refine held_free 27 (.bool true) rfl (by kernel_rfl) (by kernel_rfl) (by kernel_rfl) (by kernel_rfl) B3 (fun _ _ => by kernel_rfl) ?_
          refine held_free 28 (.bool true) rfl (by kernel_rfl) (by kernel_rfl) (by kernel_rfl) (by kernel_rfl) B3 (fun _ _ => by kernel_rfl) ?_
          refine held_free 29 (.string T) rfl (by kernel_rfl) (by kernel_rfl) (by kernel_rfl) (by kernel_rfl) B3 (fun _ _ => by kernel_rfl) ?_
          refine held_free 30 (.agg E) rfl (by kernel_rfl) (by kernel_rfl) (by kernel_rfl) (by kernel_rfl) B3 (fun W b => exec_row_ 32 (.tmp 11) (by kernel_rfl) gm (by kernel_rfl) 32 E (0, 0) _ (HKM.out.below b HKM.out.lt) digest_under rfl HEK.out.info) ?_
          refine held_call 31 rfl (by kernel_rfl) (by kernel_rfl) (by kernel_rfl) (HTR.out _) (fun w' h => bel_in B3 h) ?_
          intro W4 hW4
          have B4 := bel_in B3 hW4
          clear hW4 B3
          refine held_free 32 (.bool true) rfl (by kernel_rfl) (by kernel_rfl) (by kernel_rfl) (by kernel_rfl) B4 (fun _ _ => ex_streq 9 9 (.tmp 94) (.tmp 96) (by kernel_rfl) (T) (T) (by kernel_rfl) (by kernel_rfl) (by kernel_rfl) rfl) ?_
          refine held_free 33 (.bool true) rfl (by kernel_rfl) (by kernel_rfl) (by kernel_rfl) (by kernel_rfl) B4 (fun _ _ => by kernel_rfl) ?_
          refine held_free 34 (.bool true) rfl (by kernel_rfl) (by kernel_rfl) (by kernel_rfl) (by kernel_rfl) B4 (fun _ _ => by kernel_rfl) ?_
          refine held_end (by kernel_rfl) ?_
          go_wp2_with fail
          exact ret_slot 4 (.bool true) (by kernel_rfl) (by kernel_rfl) (by kernel_rfl) ⟨rfl, HKX.out.bel.trans (B4.mono HKX.out.bel.size)⟩

set_option maxRecDepth 100000 in
theorem lifted (os : Os) (started : os.Started) (H : Type) (enc : TypeId × Value → H) :
    ReturnsInHanded {} Tryd.checked os 7 .any (fun w args => (Rows.keyFieldsSpec.pre enc Tryd.prog Tryd.f7 [] false w args ∧ laidMetH Tryd.prog laid1 w) ∧ sizedMet enc Tryd.prog Tryd.f7 (OpenSpec.ofChange Rows.keyFieldsSpec) false w args)
      (Rows.keyFieldsSpec.post enc Tryd.prog Tryd.f7 false true false false) := by
  refine returnsInHanded_of_change_and (C := Tryd.checked) (X := fun w _ => laidMetH Tryd.prog laid1 w) (fun _ _ _ hh h => h.of_heap hh) own started (by kernel_rfl) Tryd.func7
    (ChangeSpec.witness_shaped (enc := enc) (C := Tryd.checked) (os := os) (X := fun w _ => laidMetH Tryd.prog laid1 w) false (World.doorLaid Tryd.prog 400 os) #[.agg #[.int .u64 0, .int .u64 0, .int .u32 0, .int .u32 0], .agg #[.int .i64 0, .string ByteArray.empty, .bool false, .int .i64 0]] 8 rfl (World.shaped_of_RefB (by kernel_rfl) (by kernel_rfl)) (by kernel_rfl) (by kernel_rfl) (by kernel_rfl) (door_met os _)) ?_
  intro W base args ds gs before hval0 hW hcnd hsz0 hL _
  have hsz : (DataW.weightsEach Tryd.prog (Tryd.f7.params.toList ++ Rows.keyFieldsSpec.plain.varTypes Tryd.prog) (ds ++ gs)).all (· ≤ reachBytes) = true := hsz0
  have ht := table_of hL
  have hval : ∀ (j : Nat) t v, Tryd.f7.params[j]? = some t → args[j]? = some v → Value.okWide Tryd.prog W .any base t v := hval0
  have hW' := hW
  obtain ⟨p, q, hA0, hV, rfl, hfz, hnd⟩ := hW
  have hA : DataW.TrodAll enc Tryd.prog W 0 (fun _ => true) true Tryd.f7.params.toList args.toList ds p := hA0
  rw [Tryd.params7] at hA hval hsz
  obtain ⟨v0, vs0, d0, ds0, p0, q0, hargs, rfl, rfl, h0, r0⟩ := trodAll_cons hA
  obtain ⟨v1, vs1, d1, ds1, p1, q1, rfl, rfl, rfl, h1, r1⟩ := trodAll_cons r0
  obtain ⟨rfl, rfl, rfl⟩ := trodAll_nil r1
  obtain rfl : args = #[v0, v1] := by cases args; simp_all
  obtain ⟨rfl, rfl⟩ := trodVars_none hV
  have k0 := h0
  have lt0 : ∀ x ∈ p0, x.block < W.heap.size := by obtain ⟨m, hm⟩ := k0; exact DataW.trod_lt m _ _ _ hm
  obtain ⟨f, s, a, b, rfl, hf, hs, ha, hb⟩ := open_keys (hval 0 30 v0 rfl rfl) h0
  have k1 := h1
  have lt1 : ∀ x ∈ p1, x.block < W.heap.size := by obtain ⟨m, hm⟩ := k1; exact DataW.trod_lt m _ _ _ hm
  obtain ⟨id, ip, hp, port, rfl, hid, hport, parts, hparts, hpart1⟩ := open_adr (hval 1 38 v1 rfl rfl) h1
  have zip : ip.size ≤ 140737488351232 := by have := agg_string hsz (j := 1) (k := 1) (t := 38) (tk := 9) rfl (by rw [hparts]; rfl) Tryd.underlying38 (by kernel_rfl) hpart1; simpa [reachBytes] using this
  clear hA0 hval0
  simp only [List.append_nil] at hW'
  refine (walk f s hf hs a b id ip zip hp port W ht).mono fun e W' ⟨he, bel⟩ => ?_
  subst he
  exact ⟨_, rfl, _, _, _, [], _, [], hW', trodAll_mk1 (shut_bool Tryd.underlying4 _), (trodAll_cons_mk (Below.trod laidOut (by kernel_rfl) (of_decide_eq_true (by kernel_rfl)) k0 bel lt0) (trodAll_cons_mk (Below.trod laidOut (by kernel_rfl) (of_decide_eq_true (by kernel_rfl)) k1 bel lt1) trodAll_mk0)), rfl, bel.frame _, fun h => by cases h⟩

theorem over : Rows.KeyFieldsSaid :=
  OpenClaim.holds_of_wide 7 Tryd.f7 rfl rfl rfl rfl rfl rfl rfl ⟨rfl, rfl, rfl, rfl, rfl⟩ rfl rfl rfl rfl rfl (by kernel_rfl) Tryd.func7 (by kernel_rfl)
    (of_decide_eq_true (by kernel_rfl)) (by unfold Func.isWrapper; first | (rw [if_pos (by decide +kernel)]; kernel_rfl) | (rw [if_neg (by decide +kernel)]; exact ⟨rfl, rfl⟩))
    (fun os started H enc _ => lifted os started H enc)

theorem proved : Rows.KeyFieldsCardSaid :=
  Claim7.holds_tied_plain_at .later [] [.data, .data] true _ false
    over (fun _ h => by cases h) (by kernel_rfl) (fun _ h => by cases h) keyFields_row_tie rfl ⟨rfl, rfl⟩ (by kernel_rfl) rfl
    (fun f fn hf hfn => by
      obtain rfl : f = 7 := Option.some.inj ((show Tryd.prog.funcNamed "plait/plaitlaw08.KeyFields" = some 7 by kernel_rfl).symm.trans hf) |>.symm
      obtain rfl : fn = Tryd.f7 := (Option.some.inj (Tryd.func7.symm.trans hfn)).symm
      exact ⟨by kernel_rfl, fun j t ht => by
        rw [Tryd.params7] at ht
        have hm : t ∈ ([30, 38] : List TypeId) := by simpa using Array.mem_of_getElem? ht
        have hall : (([30, 38] : List TypeId).all fun u => !Tryd.prog.wantsStandIn u) = true := by kernel_rfl
        exact (show Tryd.prog.wantsStandIn t = false by simpa using List.all_eq_true.1 hall t hm)⟩)
    (by kernel_rfl)
#print axioms proved
end Go.Proofs.YtcbakfnpbhgjoaaDoor.keyFields
