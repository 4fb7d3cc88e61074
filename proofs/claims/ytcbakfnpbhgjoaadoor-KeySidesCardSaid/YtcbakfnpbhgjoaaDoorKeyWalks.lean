/-
  What the functions of package key answer below Mac and Address, each by its walk: encoded, Bytes, concatenated, portOf, digest, Token, Idsn.
-/
import Derived.Test.YtcbakfnpbhgjoaaDoorKeyPlain
import Derived.Test.YtcbakfnpbhgjoaaDoorCurAny
import Derived.Test.YtcbakfnpbhgjoaaDoorHmacOf
import Derived.Test.YtcbakfnpbhgjoaaDoorJoin
namespace Go.Proofs.YtcbakfnpbhgjoaaDoor
open Go.ChangeShapes Go.WideShapes Go.ChangeAt Go.RowKit
set_option linter.unusedVariables false

theorem none_and (a : ByteArray) : (⟨#[]⟩ : ByteArray) ++ a = a := by apply ByteArray.ext; rw [ByteArray.data_append]; simp
theorem be_len (m n : Nat) : (txt (be m n)).size = m := be_size m n

theorem encoded8_any (n : Nat) (hn : n ≤ 255) (T : ByteArray) (hT : T = txt (be 1 n)) (w : World) :
    Calls Tryd.prog 66 #[.int .u8 (n : Int), .func (.func 29) #[] #[]] w fun e w' => e = .returned (.string T) ∧ Below w.heap.size w w' := by
  have HT := Lib.hid (show (⟨(be 1 n).toArray⟩ : ByteArray) = T from hT.symm)
  clear hT
  go_enter Tryd.func66, Tryd.ntmps66
  go_wp2_with fail
  refine (Put8_any ⟨#[]⟩ n w (by decide) hn).mono ?_
  rintro e w1 ⟨rfl, b1⟩
  rw [none_and, HT.out]
  go_wp2_with fail
  go_ret; exact ⟨rfl, b1⟩
theorem encoded16_any (n : Nat) (hn : n ≤ 65535) (T : ByteArray) (hT : T = txt (be 2 n)) (w : World) :
    Calls Tryd.prog 67 #[.int .u16 (n : Int), .func (.func 28) #[] #[]] w fun e w' => e = .returned (.string T) ∧ Below w.heap.size w w' := by
  have HT := Lib.hid (show (⟨(be 2 n).toArray⟩ : ByteArray) = T from hT.symm)
  clear hT
  go_enter Tryd.func67, Tryd.ntmps67
  go_wp2_with fail
  refine (Put16_any ⟨#[]⟩ n w (by decide) hn).mono ?_
  rintro e w1 ⟨rfl, b1⟩
  rw [none_and, HT.out]
  go_wp2_with fail
  go_ret; exact ⟨rfl, b1⟩
theorem encoded32_any (n : Nat) (hn : n ≤ 4294967295) (T : ByteArray) (hT : T = txt (be 4 n)) (w : World) :
    Calls Tryd.prog 65 #[.int .u32 (n : Int), .func (.func 24) #[] #[]] w fun e w' => e = .returned (.string T) ∧ Below w.heap.size w w' := by
  have HT := Lib.hid (show (⟨(be 4 n).toArray⟩ : ByteArray) = T from hT.symm)
  clear hT
  go_enter Tryd.func65, Tryd.ntmps65
  go_wp2_with fail
  refine (Put32_any ⟨#[]⟩ n w (by decide) hn).mono ?_
  rintro e w1 ⟨rfl, b1⟩
  rw [none_and, HT.out]
  go_wp2_with fail
  go_ret; exact ⟨rfl, b1⟩
theorem encoded64_any (n : Nat) (hn : n ≤ 18446744073709551615) (T : ByteArray) (hT : T = txt (be 8 n)) (w : World) :
    Calls Tryd.prog 34 #[.int .u64 (n : Int), .func (.func 25) #[] #[]] w fun e w' => e = .returned (.string T) ∧ Below w.heap.size w w' := by
  have HT := Lib.hid (show (⟨(be 8 n).toArray⟩ : ByteArray) = T from hT.symm)
  clear hT
  go_enter Tryd.func34, Tryd.ntmps34
  go_wp2_with fail
  refine (Put64_any ⟨#[]⟩ n w (by decide) hn).mono ?_
  rintro e w1 ⟨rfl, b1⟩
  rw [none_and, HT.out]
  go_wp2_with fail
  go_ret; exact ⟨rfl, b1⟩
theorem Bytes_any (k : Nat) (hk : k ≤ 18446744073709551615) (T : ByteArray) (hT : T = txt (be 8 k)) (w : World) :
    Calls Tryd.prog 10 #[.int .u64 (k : Int)] w fun e w' => e = .returned (.string T) ∧ Below w.heap.size w w' := by
  have HT := Lib.hid hT
  clear hT
  go_enter Tryd.func10, Tryd.ntmps10
  go_wp2_with fail
  refine (encoded64_any k hk T HT.out w).mono ?_
  rintro e w1 ⟨rfl, b1⟩
  go_wp2_with fail
  go_ret; exact ⟨rfl, b1⟩

theorem join_none (xs : List (List UInt8)) : Lib.join xs [] = xs.flatten := by
  cases xs with
  | nil => rfl
  | cons x r => rw [Lib.join_cons, Lib.joinTail]; simp
/-- The parts, one behind the other; they lie in a block of their own. -/
theorem concatenated_any (xs : List ByteArray) (T : ByteArray) (hT : T.data.toList = (xs.map (·.data.toList)).flatten) (bk n : Nat) (hn : n = xs.length) (w : World) (hb : Blk w bk 9 (xs.map Value.string).toArray) (hx : xs.length ≤ 140737488355328) (hz : T.size ≤ 140737488355328) :
    Calls Tryd.prog 64 #[.slice (some ⟨bk, 0, none⟩) n n] w fun e w' => e = .returned (.string T) ∧ Below w.heap.size w w' := by
  subst hn
  have hj : Lib.join (xs.map (·.data.toList)) (⟨#[]⟩ : ByteArray).data.toList = T.data.toList := (join_none _).trans hT.symm
  have c := Tryd.strings_Join bk 0 xs.length xs ⟨#[]⟩ w (fun j x h => by rw [Nat.zero_add, hb.cell j]; simp [h]) hb.lt hx (Nat.le_refl _) (by rw [hj, len_data]; exact hz)
  rw [hj, show (⟨T.data.toList.toArray⟩ : ByteArray) = T from txt_ext (by simp)] at c
  have HC := Lib.hid c
  clear c hb hj hT
  go_enter Tryd.func64, Tryd.ntmps64
  go_wp2_with fail
  refine HC.out.mono ?_
  rintro e w1 ⟨rfl, b1⟩
  go_wp2_with fail
  go_ret; exact ⟨rfl, b1⟩

/-- An address, as a value. -/
abbrev adr (id : Int) (ip : ByteArray) (h : Bool) (port : Int) : Value := .agg #[.int .i64 id, .string ip, .bool h, .int .i64 port]
theorem portOf_any (id : Int) (ip : ByteArray) (h : Bool) (port : Int) (w : World) :
    Calls Tryd.prog 68 #[adr id ip h port] w fun e w' => e = .returned (.int .u16 (if h then port % 65536 else 0)) ∧ Below w.heap.size w w' := by
  have bn := Blk.new w 38 #[.int .i64 id, .string ip, .bool h, .int .i64 port]
  have c2 := bn.cell 2
  have c3 := bn.cell 3
  have b : Below w.heap.size w (w.alloc (.cells #[.int .i64 id, .string ip, .bool h, .int .i64 port] 38)) := (Below.refl _ _).alloc (Nat.le_refl _) _
  have HB := Lib.hid b
  clear bn b
  go_enter Tryd.func68, Tryd.ntmps68
  cases h
  · go_wp2_with fail
    go_ret; exact ⟨rfl, HB.out⟩
  · go_wp2_with fail
    go_ret; exact ⟨rfl, HB.out⟩

set_option maxRecDepth 100000 in
theorem digest_any (k : Nat) (hk : k ≤ 18446744073709551615) (D : Array Value) (hD : D = byv (kdig k)) (w : World) (ht : Tbl w) :
    Calls Tryd.prog 36 #[.int .u64 (k : Int)] w fun e w' => e = .returned (.agg D) ∧ Below w.heap.size w w' := by
  obtain ⟨z32, hz32⟩ : ∃ z32, z32 = byv (List.replicate 32 0) := ⟨_, rfl⟩
  have hdz := digest_zero
  rw [← hz32] at hdz
  have HZK := Lib.hid (show DOk z32 by rw [hz32]; exact dok_zero)
  have HDK := Lib.hid (show DOk D by rw [hD]; exact dok _ (kdig_length _))
  have s1 : (w.alloc (.cells z32 32)).heap.size = w.heap.size + 1 := World.size_alloc _ _
  have HT1 := Lib.hid (ht.alloc (.cells z32 32))
  have HR1 := Lib.hid (Blk.new w 32 z32)
  have HB1 := Lib.hid ((Below.refl w.heap.size w).alloc (Nat.le_refl _) (.cells z32 32))
  have HD := Lib.hid hD
  obtain ⟨T, hT⟩ : ∃ T, T = txt (be 8 k) := ⟨_, rfl⟩
  have HT := Lib.hid hT
  clear hz32 ht hD hT
  go_enter Tryd.func36, Tryd.ntmps36
  go_wp2_with fail
  refine (Bytes_any k hk T HT.out _).mono ?_
  rintro e W2 ⟨rfl, b2⟩
  rw [s1] at b2
  have HT2 := Lib.hid (HT1.out.under b2 (by have := HT1.out.lt; omega))
  have HR2 := Lib.hid (HR1.out.below b2 (by omega))
  have HB2 := Lib.hid (HB1.out.trans (b2.mono (by omega)))
  clear b2 HT1 HR1 HB1 s1
  go_wp2_with fail
  refine (SumL T _ D W2 rfl (by rw [HD.out, HT.out, kdig]) HT2.out (by rw [len_data, HT.out, be_len]; decide)).mono ?_
  rintro e W4 ⟨rfl, b4⟩
  have HR4 := Lib.hid (HR2.out.below b4 HR2.out.lt)
  have HB4 := Lib.hid (HB2.out.trans (b4.mono HB2.out.size))
  have HDO := Lib.hid (show z32.size = D.size by rw [HZK.out.size, HDK.out.size])
  have HRW := Lib.hid (show Blk (W4.setRow w.heap.size D) w.heap.size 32 D from setRow_heap _ _ _ _ _ _ HR4.out)
  have HBW := Lib.hid (below_setRow HB4.out (Nat.le_refl _) D)
  clear b4 HR2 HB2 HT2
  go_wp2_with (refine wpList_store_row rfl 32 (.tmp 2) (.tmp 5) rfl w.heap.size D rfl rfl 32 z32 HR4.out HDK.out.info HDO.out HDK.out.one ?_)
  refine bodyPost_ret (results_cell_row rfl _ _ w.heap.size 32 D (0, 0) _ rfl HRW.out digest_under rfl HDK.out.info) rfl ⟨rfl, HBW.out⟩

theorem Token_any (k : Nat) (hk : k ≤ 18446744073709551615) (w : World) (ht : Tbl w) :
    Calls Tryd.prog 12 #[.int .u64 (k : Int)] w fun e w' => e = .returned (.int .u32 (tok k : Int)) ∧ Below w.heap.size w w' := by
  obtain ⟨D, hD⟩ : ∃ D, D = byv (kdig k) := ⟨_, rfl⟩
  have HD := Lib.hid hD
  have HT := Lib.hid ht
  obtain ⟨T, hT⟩ : ∃ T, T = txt ((kdig k).take 4) := ⟨_, rfl⟩
  have hts : T.size = 4 := by rw [hT]; simp [ByteArray.size, kdig_length]
  have TL : ∀ W, Calls Tryd.prog 27 #[.agg D, .int .i64 4] W fun e w' => e = .returned (.string T) ∧ Below W.heap.size W w' := fun W => by
    have h := Left_any (kdig k) (kdig_length k) 4 (by decide) (by decide) W
    rw [← HD.out, show cl 4 = 4 from rfl, ← hT] at h
    exact h
  have HN := Lib.hid (show num T 0 4 = tok k by rw [hT]; rfl)
  clear hD ht hT
  go_enter Tryd.func12, Tryd.ntmps12
  go_wp2_with fail
  refine (digest_any k hk D HD.out w HT.out).mono ?_
  rintro e W1 ⟨rfl, b1⟩
  have HB1 := Lib.hid b1
  clear b1
  go_wp2_with fail
  refine (TL W1).mono ?_
  rintro e W2 ⟨rfl, b2⟩
  have HB2 := Lib.hid (HB1.out.trans (b2.mono HB1.out.size))
  clear b2 HB1 TL
  go_wp2_with fail
  refine (Read_new T W2).mono ?_
  rintro e W3 ⟨b, rfl, hb, b3, hc⟩
  have HB3 := Lib.hid (HB2.out.trans (b3.mono HB2.out.size))
  have HBB := Lib.hid (Nat.le_trans HB2.out.size hb)
  have HC := Lib.hid hc
  clear b3 hb hc HB2
  go_wp2_with fail
  refine (U32_t b T 0 W3 (by omega) (by omega) HC.out).mono ?_
  rintro e W4 ⟨rfl, mv⟩
  have HB4 := Lib.hid (below_move HB3.out mv HBB.out (Nat.le_refl _))
  rw [HN.out]
  clear mv HC
  go_wp2_with fail
  go_ret; exact ⟨rfl, HB4.out⟩
theorem Idsn_any (k : Nat) (hk : k ≤ 18446744073709551615) (w : World) (ht : Tbl w) :
    Calls Tryd.prog 14 #[.int .u64 (k : Int)] w fun e w' => e = .returned (.int .u64 (idsn k : Int)) ∧ Below w.heap.size w w' := by
  obtain ⟨D, hD⟩ : ∃ D, D = byv (kdig k) := ⟨_, rfl⟩
  have HD := Lib.hid hD
  have HT := Lib.hid ht
  obtain ⟨T, hT⟩ : ∃ T, T = txt ((kdig k).drop 24) := ⟨_, rfl⟩
  have hts : T.size = 8 := by rw [hT]; simp [ByteArray.size, kdig_length]
  have TL : ∀ W, Calls Tryd.prog 30 #[.agg D, .int .i64 8] W fun e w' => e = .returned (.string T) ∧ Below W.heap.size W w' := fun W => by
    have h := Right_any (kdig k) (kdig_length k) 8 (by decide) (by decide) W
    rw [← HD.out, show 32 - cl 8 = 24 from rfl, ← hT] at h
    exact h
  have HN := Lib.hid (show num T 0 8 = idsn k by rw [hT]; rfl)
  clear hD ht hT
  go_enter Tryd.func14, Tryd.ntmps14
  go_wp2_with fail
  refine (digest_any k hk D HD.out w HT.out).mono ?_
  rintro e W1 ⟨rfl, b1⟩
  have HB1 := Lib.hid b1
  clear b1
  go_wp2_with fail
  refine (TL W1).mono ?_
  rintro e W2 ⟨rfl, b2⟩
  have HB2 := Lib.hid (HB1.out.trans (b2.mono HB1.out.size))
  clear b2 HB1 TL
  go_wp2_with fail
  refine (Read_new T W2).mono ?_
  rintro e W3 ⟨b, rfl, hb, b3, hc⟩
  have HB3 := Lib.hid (HB2.out.trans (b3.mono HB2.out.size))
  have HBB := Lib.hid (Nat.le_trans HB2.out.size hb)
  have HC := Lib.hid hc
  clear b3 hb hc HB2
  go_wp2_with fail
  refine (U64_t b T 0 W3 (by omega) (by omega) HC.out).mono ?_
  rintro e W4 ⟨rfl, mv⟩
  have HB4 := Lib.hid (below_move HB3.out mv HBB.out (Nat.le_refl _))
  rw [HN.out]
  clear mv HC
  go_wp2_with fail
  go_ret; exact ⟨rfl, HB4.out⟩
end Go.Proofs.YtcbakfnpbhgjoaaDoor
