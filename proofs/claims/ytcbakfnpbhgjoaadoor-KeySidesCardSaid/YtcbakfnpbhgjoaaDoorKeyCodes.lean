/-
  What proof, Mac, Short, Long, announcement and Address answer, each by its walk: codes of numbers and of addresses.
-/
import Derived.Test.YtcbakfnpbhgjoaaDoorKeyMac
namespace Go.Proofs.YtcbakfnpbhgjoaaDoor
open Go.ChangeShapes Go.WideShapes Go.ChangeAt Go.RowKit
set_option linter.unusedVariables false

set_option maxRecDepth 100000 in
theorem proof_any (f s : Nat) (hf : f ≤ 18446744073709551615) (hs : s ≤ 18446744073709551615) (a b : Nat) (ha : a ≤ 4294967295) (hb : b ≤ 4294967295) (D : Array Value) (hD : D = byv (mac f s (be 4 a ++ be 4 b))) (w : World) (ht : Tbl w) :
    Calls Tryd.prog 42 #[bound f s, .int .u32 (a : Int), .int .u32 (b : Int)] w fun e w' => e = .returned (.agg D) ∧ Below w.heap.size w w' := by
  obtain ⟨z32, hz32⟩ : ∃ z32, z32 = byv (List.replicate 32 0) := ⟨_, rfl⟩
  have hdz := digest_zero
  rw [← hz32] at hdz
  have HZK := Lib.hid (show DOk z32 by rw [hz32]; exact dok_zero)
  have HDK := Lib.hid (show DOk D by rw [hD]; exact dok _ (mac_length _ _ _))
  obtain ⟨F, hF⟩ : ∃ T, T = txt (be 4 a) := ⟨_, rfl⟩
  obtain ⟨S, hS⟩ : ∃ T, T = txt (be 4 b) := ⟨_, rfl⟩
  obtain ⟨K, hK⟩ : ∃ K, K = txt (be 4 a ++ be 4 b) := ⟨_, rfl⟩
  have hKs : K.size = 8 := by rw [hK]; simp [ByteArray.size, be_length]
  have HKF := Lib.hid (show K.data.toList = ([F, S].map (·.data.toList)).flatten by rw [hK, hF, hS]; simp)
  have HDC := Lib.hid (show D = byv (mac f s K.data.toList) by rw [hD, hK])
  obtain ⟨B, hB⟩ : ∃ B, B = bound f s := ⟨_, rfl⟩
  have s1 : (w.alloc (.cells z32 32)).heap.size = w.heap.size + 1 := World.size_alloc _ _
  have HT1 := Lib.hid (ht.alloc (.cells z32 32))
  have HR1 := Lib.hid (Blk.new w 32 z32)
  have HB1 := Lib.hid ((Below.refl w.heap.size w).alloc (Nat.le_refl _) (.cells z32 32))
  have HF := Lib.hid hF
  have HS := Lib.hid hS
  clear hz32 ht hD hF hS hK
  go_enter Tryd.func42, Tryd.ntmps42
  go_wp2_with fail
  refine (encoded32_any a ha F HF.out _).mono ?_
  rintro e W2 ⟨rfl, b2⟩
  rw [s1] at b2
  have HT2 := Lib.hid (HT1.out.under b2 (by have := HT1.out.lt; omega))
  have HR2 := Lib.hid (HR1.out.below b2 (by omega))
  have HB2 := Lib.hid (HB1.out.trans (b2.mono (by omega)))
  clear b2 HT1 HR1 HB1 s1
  go_wp2_with fail
  refine (encoded32_any b hb S HS.out _).mono ?_
  rintro e W3 ⟨rfl, b3⟩
  have n3 := Blk.new W3 9 ([F, S].map Value.string).toArray
  obtain ⟨W4, hW4⟩ : ∃ W4, W4 = W3.alloc (.cells #[.string F, .string S] 9) := ⟨_, rfl⟩
  have b4 : Below W3.heap.size W3 W4 := by rw [hW4]; exact (Below.refl _ W3).alloc (Nat.le_refl _) _
  have HN4 := Lib.hid (show Blk W4 W3.heap.size 9 ([F, S].map Value.string).toArray by rw [hW4]; exact n3)
  have bb := b3.trans (b4.mono b3.size)
  have HT4 := Lib.hid (HT2.out.below bb)
  have HR4 := Lib.hid (HR2.out.below bb HR2.out.lt)
  have HB4 := Lib.hid (HB2.out.trans (bb.mono HB2.out.size))
  have ew4 := hW4.symm
  clear b3 n3 hW4 b4 bb HT2 HR2 HB2
  go_wp2_with fail
  refine (concatenated_any [F, S] K HKF.out W3.heap.size 2 rfl W4 HN4.out (by simp) (by omega)).mono ?_
  rintro e W5 ⟨rfl, b5⟩
  have HT5 := Lib.hid (HT4.out.below b5)
  have HR5 := Lib.hid (HR4.out.below b5 HR4.out.lt)
  have HB5 := Lib.hid (HB4.out.trans (b5.mono HB4.out.size))
  clear b5 HT4 HR4 HB4 HN4 ew4
  go_wp2_with fail
  refine (keys_code_any f s hf hs K (by omega) D HDC.out W5 HT5.out).mono ?_
  rintro e W6 ⟨rfl, b6⟩
  have HR6 := Lib.hid (HR5.out.below b6 HR5.out.lt)
  have HB6 := Lib.hid (HB5.out.trans (b6.mono HB5.out.size))
  have HDO := Lib.hid (show z32.size = D.size by rw [HZK.out.size, HDK.out.size])
  have HRW := Lib.hid (show Blk (W6.setRow w.heap.size D) w.heap.size 32 D from setRow_heap _ _ _ _ _ _ HR6.out)
  have HBW := Lib.hid (below_setRow HB6.out (Nat.le_refl _) D)
  clear b6 HR5 HB5 HT5
  go_wp2_with (refine wpList_store_row rfl 32 (.tmp 6) (.tmp 14) rfl w.heap.size D rfl rfl 32 z32 HR6.out HDK.out.info HDO.out HDK.out.one ?_)
  refine bodyPost_ret (results_cell_row rfl _ _ w.heap.size 32 D (0, 0) _ rfl HRW.out digest_under rfl HDK.out.info) rfl ⟨rfl, HBW.out⟩

/-- The code of two numbers under two keys. -/
def macn (f s a b : Nat) : List UInt8 := mac f s (be 4 a ++ be 4 b)
theorem macn_length (f s a b : Nat) : (macn f s a b).length = 32 := mac_length _ _ _

set_option maxRecDepth 100000 in
theorem Mac_any (f s : Nat) (hf : f ≤ 18446744073709551615) (hs : s ≤ 18446744073709551615) (a b : Nat) (ha : a ≤ 4294967295) (hb : b ≤ 4294967295) (D : Array Value) (hD : D = byv (macn f s a b)) (w : World) (ht : Tbl w) :
    Calls Tryd.prog 18 #[.int .u64 (f : Int), .int .u64 (s : Int), .int .u32 (a : Int), .int .u32 (b : Int)] w fun e w' => e = .returned (.agg D) ∧ Below w.heap.size w w' := by
  obtain ⟨z32, hz32⟩ : ∃ z32, z32 = byv (List.replicate 32 0) := ⟨_, rfl⟩
  have hdz := digest_zero
  rw [← hz32] at hdz
  have HZK := Lib.hid (show DOk z32 by rw [hz32]; exact dok_zero)
  have HDK := Lib.hid (show DOk D by rw [hD]; exact dok _ (macn_length _ _ _ _))
  have HDC := Lib.hid (show D = byv (mac f s (be 4 a ++ be 4 b)) from hD)
  have s1 : (w.alloc (.cells z32 32)).heap.size = w.heap.size + 1 := World.size_alloc _ _
  have HT1 := Lib.hid (ht.alloc (.cells z32 32))
  have HR1 := Lib.hid (Blk.new w 32 z32)
  have HB1 := Lib.hid ((Below.refl w.heap.size w).alloc (Nat.le_refl _) (.cells z32 32))
  clear hz32 ht hD
  go_enter Tryd.func18, Tryd.ntmps18
  go_wp2_with fail
  refine (proof_any f s hf hs a b ha hb D HDC.out _ HT1.out).mono ?_
  rintro e W2 ⟨rfl, b2⟩
  rw [s1] at b2
  have HR2 := Lib.hid (HR1.out.below b2 (by omega))
  have HB2 := Lib.hid (HB1.out.trans (b2.mono (by omega)))
  have HDO := Lib.hid (show z32.size = D.size by rw [HZK.out.size, HDK.out.size])
  have HRW := Lib.hid (show Blk (W2.setRow w.heap.size D) w.heap.size 32 D from setRow_heap _ _ _ _ _ _ HR2.out)
  have HBW := Lib.hid (below_setRow HB2.out (Nat.le_refl _) D)
  clear b2 HT1 HR1 HB1 s1
  go_wp2_with (refine wpList_store_row rfl 32 (.tmp 8) (.tmp 15) rfl w.heap.size D rfl rfl 32 z32 HR2.out HDK.out.info HDO.out HDK.out.one ?_)
  refine bodyPost_ret (results_cell_row rfl _ _ w.heap.size 32 D (0, 0) _ rfl HRW.out digest_under rfl HDK.out.info) rfl ⟨rfl, HBW.out⟩

set_option maxRecDepth 100000 in
theorem Short_any (f s : Nat) (hf : f ≤ 18446744073709551615) (hs : s ≤ 18446744073709551615) (a b : Nat) (ha : a ≤ 4294967295) (hb : b ≤ 4294967295) (T : ByteArray) (hT : T = txt ((macn f s a b).take 8)) (w : World) (ht : Tbl w) :
    Calls Tryd.prog 19 #[.int .u64 (f : Int), .int .u64 (s : Int), .int .u32 (a : Int), .int .u32 (b : Int)] w fun e w' => e = .returned (.string T) ∧ Below w.heap.size w w' := by
  obtain ⟨D, hD⟩ : ∃ D, D = byv (macn f s a b) := ⟨_, rfl⟩
  have HD := Lib.hid hD
  have TL : ∀ W, Calls Tryd.prog 27 #[.agg D, .int .i64 8] W fun e w' => e = .returned (.string T) ∧ Below W.heap.size W w' := fun W => by
    have h := Left_any (macn f s a b) (macn_length f s a b) 8 (by decide) (by decide) W
    rw [← HD.out, show cl 8 = 8 from rfl, ← hT] at h
    exact h
  have HT := Lib.hid ht
  clear hD ht hT
  go_enter Tryd.func19, Tryd.ntmps19
  go_wp2_with fail
  refine (Mac_any f s hf hs a b ha hb D HD.out w HT.out).mono ?_
  rintro e W1 ⟨rfl, b1⟩
  have HB1 := Lib.hid b1
  clear b1
  go_wp2_with fail
  refine (TL W1).mono ?_
  rintro e W2 ⟨rfl, b2⟩
  have HB2 := Lib.hid (HB1.out.trans (b2.mono HB1.out.size))
  clear b2 HB1 TL
  go_wp2_with fail
  go_ret; exact ⟨rfl, HB2.out⟩

set_option maxRecDepth 100000 in
theorem Long_any (f s : Nat) (hf : f ≤ 18446744073709551615) (hs : s ≤ 18446744073709551615) (a b : Nat) (ha : a ≤ 4294967295) (hb : b ≤ 4294967295) (T : ByteArray) (hT : T = txt ((macn f s a b).take 20)) (w : World) (ht : Tbl w) :
    Calls Tryd.prog 20 #[.int .u64 (f : Int), .int .u64 (s : Int), .int .u32 (a : Int), .int .u32 (b : Int)] w fun e w' => e = .returned (.string T) ∧ Below w.heap.size w w' := by
  obtain ⟨D, hD⟩ : ∃ D, D = byv (macn f s a b) := ⟨_, rfl⟩
  have HD := Lib.hid hD
  have TL : ∀ W, Calls Tryd.prog 27 #[.agg D, .int .i64 20] W fun e w' => e = .returned (.string T) ∧ Below W.heap.size W w' := fun W => by
    have h := Left_any (macn f s a b) (macn_length f s a b) 20 (by decide) (by decide) W
    rw [← HD.out, show cl 20 = 20 from rfl, ← hT] at h
    exact h
  have HT := Lib.hid ht
  clear hD ht hT
  go_enter Tryd.func20, Tryd.ntmps20
  go_wp2_with fail
  refine (Mac_any f s hf hs a b ha hb D HD.out w HT.out).mono ?_
  rintro e W1 ⟨rfl, b1⟩
  have HB1 := Lib.hid b1
  clear b1
  go_wp2_with fail
  refine (TL W1).mono ?_
  rintro e W2 ⟨rfl, b2⟩
  have HB2 := Lib.hid (HB1.out.trans (b2.mono HB1.out.size))
  clear b2 HB1 TL
  go_wp2_with fail
  go_ret; exact ⟨rfl, HB2.out⟩

/-- The code with which an address is announced: of an address's lowest eight bits of Id, Ip, and what counts as its port. -/
def told (f s i : Nat) (ip : List UInt8) (p : Nat) : List UInt8 := (mac f s (addr i ip p)).drop 24
set_option maxRecDepth 100000 in
theorem announcement_any (f s : Nat) (hf : f ≤ 18446744073709551615) (hs : s ≤ 18446744073709551615) (id : Int) (ip : ByteArray) (hip : ip.size ≤ 140737488350000) (h : Bool) (port : Int) (i p : Nat) (hi : id % 256 = (i : Int)) (hp : (if h then port % 65536 else 0) = (p : Int))
    (T : ByteArray) (hT : T = txt (told f s i ip.data.toList p)) (w : World) (ht : Tbl w) :
    Calls Tryd.prog 44 #[bound f s, adr id ip h port] w fun e w' => e = .returned (.string T) ∧ Below w.heap.size w w' := by
  have i0 : i ≤ 255 := by omega
  have p0 : p ≤ 65535 := by cases h <;> simp at hp <;> omega
  obtain ⟨I, hI⟩ : ∃ T, T = txt (be 1 i) := ⟨_, rfl⟩
  obtain ⟨Q, hQ⟩ : ∃ T, T = txt (be 2 p) := ⟨_, rfl⟩
  obtain ⟨K, hK⟩ : ∃ K, K = txt (addr i ip.data.toList p) := ⟨_, rfl⟩
  have hKs : K.size ≤ 140737488350003 := by rw [hK, addr]; simp only [ByteArray.size, List.size_toArray, List.length_append, be_length]; have := len_data ip; omega
  obtain ⟨D, hD⟩ : ∃ D, D = byv (mac f s K.data.toList) := ⟨_, rfl⟩
  have TL : ∀ W, Calls Tryd.prog 30 #[.agg D, .int .i64 8] W fun e w' => e = .returned (.string T) ∧ Below W.heap.size W w' := fun W => by
    have h := Right_any (mac f s K.data.toList) (mac_length _ _ _) 8 (by decide) (by decide) W
    rw [← hD, show 32 - cl 8 = 24 from rfl, show txt ((mac f s K.data.toList).drop 24) = T by rw [hT, hK, told]] at h
    exact h
  have HKF := Lib.hid (show K.data.toList = ([I, ip, Q].map (·.data.toList)).flatten by rw [hK, hI, hQ, addr]; simp)
  have HI := Lib.hid hI
  have HQ := Lib.hid hQ
  have HP := Lib.hid hp
  have HD := Lib.hid hD
  obtain ⟨w0, hw0⟩ : ∃ w0, w0 = w.alloc (.cells #[.int .i64 id, .string ip, .bool h, .int .i64 port] 38) := ⟨_, rfl⟩
  have b0 : Below w.heap.size w w0 := by rw [hw0]; exact (Below.refl _ _).alloc (Nat.le_refl _) _
  have n0 : Blk w0 w.heap.size 38 #[.int .i64 id, .string ip, .bool h, .int .i64 port] := by rw [hw0]; exact Blk.new _ _ _
  have c0 := n0.cell 0
  have HN0 := Lib.hid n0
  have HT0 := Lib.hid (ht.below b0)
  have HB0 := Lib.hid b0
  have ew0 := hw0.symm
  clear ht hT hI hQ hK hD hp b0 n0 hw0
  go_enter Tryd.func44, Tryd.ntmps44
  go_wp2_with fail
  refine (encoded8_any i i0 I HI.out w0).mono ?_
  rintro e W1 ⟨rfl, b1⟩
  have HN1 := Lib.hid (HN0.out.below b1 HN0.out.lt)
  have HT1 := Lib.hid (HT0.out.below b1)
  have HB1 := Lib.hid (HB0.out.trans (b1.mono HB0.out.size))
  clear b1 HN0 HT0 HB0 ew0 c0
  go_wp2_with (refine wpList_load_row rfl 38 (.tmp 3) rfl w.heap.size rfl 38 #[.int .i64 id, .string ip, .bool h, .int .i64 port] (0, 0) _ HN1.out Tryd.underlying38 rfl (by kernel_rfl) ?_)
  refine (portOf_any id ip h port W1).mono ?_
  rintro e W2 ⟨rfl, b2⟩
  rw [HP.out]
  have HN2 := Lib.hid (HN1.out.below b2 HN1.out.lt)
  have HT2 := Lib.hid (HT1.out.below b2)
  have HB2 := Lib.hid (HB1.out.trans (b2.mono HB1.out.size))
  clear b2 HN1 HT1 HB1
  go_wp2_with fail
  refine (encoded16_any p p0 Q HQ.out W2).mono ?_
  rintro e W3 ⟨rfl, b3⟩
  have n3 := HN2.out.below b3 HN2.out.lt
  have c1 := n3.cell 1
  have m3 := Blk.new W3 9 ([I, ip, Q].map Value.string).toArray
  obtain ⟨W4, hW4⟩ : ∃ W4, W4 = W3.alloc (.cells #[.string I, .string ip, .string Q] 9) := ⟨_, rfl⟩
  have b4 : Below W3.heap.size W3 W4 := by rw [hW4]; exact (Below.refl _ W3).alloc (Nat.le_refl _) _
  have HN4 := Lib.hid (show Blk W4 W3.heap.size 9 ([I, ip, Q].map Value.string).toArray by rw [hW4]; exact m3)
  have bb := b3.trans (b4.mono b3.size)
  have HT4 := Lib.hid (HT2.out.below bb)
  have HB4 := Lib.hid (HB2.out.trans (bb.mono HB2.out.size))
  have ew4 := hW4.symm
  clear b3 n3 m3 hW4 b4 bb HT2 HN2 HB2
  go_wp2_with fail
  refine (concatenated_any [I, ip, Q] K HKF.out W3.heap.size 3 rfl W4 HN4.out (by simp) (by omega)).mono ?_
  rintro e W5 ⟨rfl, b5⟩
  have HT5 := Lib.hid (HT4.out.below b5)
  have HB5 := Lib.hid (HB4.out.trans (b5.mono HB4.out.size))
  clear b5 HT4 HB4 HN4 ew4 c1
  go_wp2_with fail
  refine (keys_code_any f s hf hs K (by omega) D HD.out W5 HT5.out).mono ?_
  rintro e W6 ⟨rfl, b6⟩
  have HB6 := Lib.hid (HB5.out.trans (b6.mono HB5.out.size))
  clear b6 HB5 HT5
  go_wp2_with fail
  refine (TL W6).mono ?_
  rintro e W7 ⟨rfl, b7⟩
  have HB7 := Lib.hid (HB6.out.trans (b7.mono HB6.out.size))
  clear b7 HB6 TL
  go_wp2_with fail
  go_ret; exact ⟨rfl, HB7.out⟩

set_option maxRecDepth 100000 in
theorem Address_any (f s : Nat) (hf : f ≤ 18446744073709551615) (hs : s ≤ 18446744073709551615) (id : Int) (ip : ByteArray) (hip : ip.size ≤ 140737488350000) (h : Bool) (port : Int) (i p : Nat) (hi : id % 256 = (i : Int)) (hp : (if h then port % 65536 else 0) = (p : Int))
    (T : ByteArray) (hT : T = txt (told f s i ip.data.toList p)) (w : World) (ht : Tbl w) :
    Calls Tryd.prog 21 #[.int .u64 (f : Int), .int .u64 (s : Int), adr id ip h port] w fun e w' => e = .returned (.string T) ∧ Below w.heap.size w w' := by
  obtain ⟨w0, hw0⟩ : ∃ w0, w0 = w.alloc (.cells #[.int .i64 id, .string ip, .bool h, .int .i64 port] 38) := ⟨_, rfl⟩
  have b0 : Below w.heap.size w w0 := by rw [hw0]; exact (Below.refl _ _).alloc (Nat.le_refl _) _
  have n0 : Blk w0 w.heap.size 38 #[.int .i64 id, .string ip, .bool h, .int .i64 port] := by rw [hw0]; exact Blk.new _ _ _
  have HN0 := Lib.hid n0
  have HT0 := Lib.hid (ht.below b0)
  have HB0 := Lib.hid b0
  have HT := Lib.hid hT
  have HI := Lib.hid hi
  have HP := Lib.hid hp
  have ew0 := hw0.symm
  clear ht b0 n0 hw0 hT hi hp
  go_enter Tryd.func21, Tryd.ntmps21
  go_wp2_with (refine wpList_load_row rfl 38 (.tmp 5) rfl w.heap.size rfl 38 #[.int .i64 id, .string ip, .bool h, .int .i64 port] (0, 0) _ HN0.out Tryd.underlying38 rfl (by kernel_rfl) ?_)
  refine (announcement_any f s hf hs id ip hip h port i p HI.out HP.out T HT.out w0 HT0.out).mono ?_
  rintro e W1 ⟨rfl, b1⟩
  have HB1 := Lib.hid (HB0.out.trans (b1.mono HB0.out.size))
  clear b1 HB0
  go_wp2_with fail
  go_ret; exact ⟨rfl, HB1.out⟩
end Go.Proofs.YtcbakfnpbhgjoaaDoor
