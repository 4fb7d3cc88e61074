/-
  The document's own answers of layer 8 (package plaitref08), each by its walk.
-/
import Derived.Test.YtcbakfnpbhgjoaaDoorKeyCodes
import Derived.Test.YtcbakfnpbhgjoaaDoorHmacRefOf
import Derived.Test.YtcbakfnpbhgjoaaDoorCurRefs
namespace Go.Proofs.YtcbakfnpbhgjoaaDoor
open Go.ChangeShapes Go.WideShapes Go.ChangeAt Go.RowKit
set_option linter.unusedVariables false

theorem be_one (n m : Nat) (h : n % 256 = m % 256) : be 1 n = be 1 m := by
  simp only [be, Nat.pow_zero, Nat.div_one, List.cons.injEq, and_true]
  apply UInt8.toNat_inj.1
  simp only [UInt8.toNat_ofNat']
  omega
theorem be_two (n m : Nat) (h : n % 65536 = m % 65536) : be 2 n = be 2 m := by
  simp only [be, Nat.pow_zero, Nat.pow_one, Nat.div_one, List.cons.injEq, and_true]
  constructor
  · apply UInt8.toNat_inj.1
    simp only [UInt8.toNat_ofNat']
    omega
  · apply UInt8.toNat_inj.1
    simp only [UInt8.toNat_ofNat']
    omega
theorem conv_i64_u64 (n : Int) (u : Nat) (h : n % 18446744073709551616 = (u : Int)) (w : World) : (convert 3 22 (.int .i64 n)).run Tryd.prog w = .ok (.int .u64 (u : Int)) w := by
  rw [run_convert_int w 3 22 .i64 _ (by kernel_rfl) (by kernel_rfl), show Tryd.prog.intKind 22 = .u64 by kernel_rfl, IntKind.wrap_u64, h]

theorem Bytes_ref (k : Nat) (hk : k ≤ 18446744073709551615) (T : ByteArray) (hT : T = txt (be 8 k)) (w : World) :
    Calls Tryd.prog 11 #[.int .u64 (k : Int)] w fun e w' => e = .returned (.string T) ∧ Below w.heap.size w w' := by
  have HT := Lib.hid (show (⟨(be 8 k).toArray⟩ : ByteArray) = T from hT.symm)
  clear hT
  go_enter Tryd.func11, Tryd.ntmps11
  go_wp2_with fail
  refine (Put_ref ⟨#[]⟩ k 8 w (by decide) hk (by decide)).mono ?_
  rintro e w1 ⟨rfl, b1⟩
  rw [none_and, HT.out]
  go_wp2_with fail
  go_ret; exact ⟨rfl, b1⟩

/-- The number that is in some bytes in memory. -/
theorem number_ref (g o : Nat) (l : List UInt8) (n cap : Nat) (hn : n = l.length) (hl : l.length ≤ 8) (w : World) (hc : ∀ j (h : j < l.length), w.cell? ⟨g, o + j, none⟩ = some (.int .u8 ((l[j].toNat : Nat) : Int))) :
    Calls Tryd.prog 38 #[.slice (some ⟨g, o, none⟩) n cap] w fun e w' => e = .returned (.int .u64 ((num (txt l) 0 n : Nat) : Int)) ∧ w = w' := by
  subst hn
  obtain ⟨t, ht⟩ : ∃ t, t = txt l := ⟨_, rfl⟩
  have hts : t.size = l.length := by rw [ht]; simp [ByteArray.size]
  have hg : ∀ j (h : j < l.length), t[j]'(by omega) = l[j] := fun j h => by subst ht; rfl
  have HC := Lib.hid hc
  rw [← ht]
  clear hc ht
  go_enter Tryd.func38, Tryd.ntmps38
  go_wp2
  go_loopw [3, 4] (fun x i wr => ∃ j : Nat, j ≤ l.length ∧ x = .int .u64 ((num t 0 j : Nat) : Int) ∧ i = .int .i64 (j : Int) ∧ w = wr) (fun _ i _ => l.length - (intOf i).toNat)
  case atStart => exact ⟨0, Nat.zero_le _, rfl, rfl, rfl⟩
  case round =>
    obtain ⟨j, hj, rfl, rfl, rfl⟩ := hrel
    by_cases hlt : j < l.length
    · have nb := num_le7 t 0 j (by omega)
      have hst := Lib.hid (num_step0 t j (by omega))
      have HG := Lib.hid (hg j hlt)
      have c0 := HC.out j hlt
      have hb := l[j].toNat_lt
      obtain ⟨z, hz⟩ : ∃ z, z = l[j].toNat := ⟨_, rfl⟩
      rw [← hz] at c0 hb
      have HZ := Lib.hid hz
      clear hz hg
      have l0 : (j : Int) < (l.length : Int) := by omega
      go_wp2
      go_round
      case rel => exact ⟨j + 1, by omega, val_int (by rw [hst.out, HG.out, ← HZ.out]; go_num), by go_num, trivial⟩
      case measure => simp [intOf]; omega
    · obtain rfl : l.length = j := by omega
      go_wp2
      go_ret
      exact ⟨rfl, rfl⟩
set_option maxRecDepth 100000 in
theorem TokenR_any (k : Nat) (hk : k ≤ 18446744073709551615) (w : World) :
    Calls Tryd.prog 13 #[.int .u64 (k : Int)] w fun e w' => e = .returned (.int .u32 (tok k : Int)) ∧ Below w.heap.size w w' := by
  obtain ⟨z32, hz32⟩ : ∃ z32, z32 = byv (List.replicate 32 0) := ⟨_, rfl⟩
  have hdz := digest_zero
  rw [← hz32] at hdz
  have HZK := Lib.hid (show DOk z32 by rw [hz32]; exact dok_zero)
  obtain ⟨D, hD⟩ : ∃ D, D = byv (kdig k) := ⟨_, rfl⟩
  have HD := Lib.hid hD
  have HDK := Lib.hid (show DOk D by rw [hD]; exact dok _ (kdig_length _))
  obtain ⟨T, hT⟩ : ∃ T, T = txt (be 8 k) := ⟨_, rfl⟩
  have HT := Lib.hid hT
  have hTs : T.size = 8 := by rw [hT]; exact be_len 8 k
  clear hz32 hD hT
  go_enter Tryd.func13, Tryd.ntmps13
  go_wp2_with fail
  refine (Bytes_ref k hk T HT.out w).mono ?_
  rintro e W1 ⟨rfl, b1⟩
  have HB1 := Lib.hid b1
  clear b1
  go_wp2_with fail
  refine (answer (Sum_ref T (by omega) W1) (show Value.agg (byv (digest T.data.toList)) = .agg D by rw [HD.out, HT.out, kdig])).mono ?_
  rintro e W2 ⟨rfl, b2⟩
  have n2 := Blk.new W2 32 z32
  obtain ⟨W3, hW3⟩ : ∃ W3, W3 = (W2.alloc (.cells z32 32)).setRow W2.heap.size D := ⟨_, rfl⟩
  have hb : Blk W3 W2.heap.size 32 D := by rw [hW3]; exact setRow_heap _ _ _ _ _ _ n2
  have b3 : Below W2.heap.size W2 W3 := by rw [hW3]; exact below_setRow ((Below.refl _ W2).alloc (Nat.le_refl _) _) (Nat.le_refl _) _
  have HB3 := Lib.hid (HB1.out.trans ((b2.trans (b3.mono b2.size)).mono HB1.out.size))
  have HN2 := Lib.hid n2
  have HDO := Lib.hid (show z32.size = D.size by rw [HZK.out.size, HDK.out.size])
  have HW3 := Lib.hid hW3
  obtain ⟨g, hg⟩ : ∃ g, g = W2.heap.size := ⟨_, rfl⟩
  rw [← hg] at hb
  have HG := Lib.hid hg
  have HK3 := Lib.hid hb
  have hsl : ∀ W, (Instr.sliceAt 32 (.pointer (some ⟨g, 0, none⟩)) none (some (.int .i64 4)) none).run Tryd.prog W = .ok (.slice (some ⟨g, 0, none⟩) 4 32) W := fun W => slice_front W g 4 (by decide)
  clear b2 n2 hW3 hb b3 HB1 hg
  go_upto_region 2 with (refine wpList_store_row rfl 32 (.tmp 3) (.tmp 6) rfl W2.heap.size D rfl rfl 32 z32 HN2.out HDK.out.info HDO.out HDK.out.one ?_)
  rw [← HW3.out, ← HG.out]
  clear HW3 HG
  go_wp2_with fail
  clear hsl
  refine (answer (number_ref g 0 ((kdig k).take 4) 4 32 (by simp [kdig_length]) (by simp [kdig_length]) W3 (fun j h => by
    have hj : j < 4 := by simpa [kdig_length] using h
    rw [HK3.out.cell, HD.out, byv_get _ _ (by rw [kdig_length]; omega)]
    simp)) (show Value.int .u64 ((num (txt ((kdig k).take 4)) 0 4 : Nat) : Int) = .int .u64 (tok k : Int) by rw [tok])).mono ?_
  rintro e W4 ⟨rfl, rfl⟩
  have hle := tok_le k
  go_wp2_with fail
  go_ret; exact ⟨ret_int (by omega), HB3.out⟩

set_option maxRecDepth 100000 in
theorem IdsnR_any (k : Nat) (hk : k ≤ 18446744073709551615) (w : World) :
    Calls Tryd.prog 15 #[.int .u64 (k : Int)] w fun e w' => e = .returned (.int .u64 (idsn k : Int)) ∧ Below w.heap.size w w' := by
  obtain ⟨z32, hz32⟩ : ∃ z32, z32 = byv (List.replicate 32 0) := ⟨_, rfl⟩
  have hdz := digest_zero
  rw [← hz32] at hdz
  have HZK := Lib.hid (show DOk z32 by rw [hz32]; exact dok_zero)
  obtain ⟨D, hD⟩ : ∃ D, D = byv (kdig k) := ⟨_, rfl⟩
  have HD := Lib.hid hD
  have HDK := Lib.hid (show DOk D by rw [hD]; exact dok _ (kdig_length _))
  obtain ⟨T, hT⟩ : ∃ T, T = txt (be 8 k) := ⟨_, rfl⟩
  have HT := Lib.hid hT
  have hTs : T.size = 8 := by rw [hT]; exact be_len 8 k
  clear hz32 hD hT
  go_enter Tryd.func15, Tryd.ntmps15
  go_wp2_with fail
  refine (Bytes_ref k hk T HT.out w).mono ?_
  rintro e W1 ⟨rfl, b1⟩
  have HB1 := Lib.hid b1
  clear b1
  go_wp2_with fail
  refine (answer (Sum_ref T (by omega) W1) (show Value.agg (byv (digest T.data.toList)) = .agg D by rw [HD.out, HT.out, kdig])).mono ?_
  rintro e W2 ⟨rfl, b2⟩
  have n2 := Blk.new W2 32 z32
  obtain ⟨W3, hW3⟩ : ∃ W3, W3 = (W2.alloc (.cells z32 32)).setRow W2.heap.size D := ⟨_, rfl⟩
  have hb : Blk W3 W2.heap.size 32 D := by rw [hW3]; exact setRow_heap _ _ _ _ _ _ n2
  have b3 : Below W2.heap.size W2 W3 := by rw [hW3]; exact below_setRow ((Below.refl _ W2).alloc (Nat.le_refl _) _) (Nat.le_refl _) _
  have HB3 := Lib.hid (HB1.out.trans ((b2.trans (b3.mono b2.size)).mono HB1.out.size))
  have HN2 := Lib.hid n2
  have HDO := Lib.hid (show z32.size = D.size by rw [HZK.out.size, HDK.out.size])
  have HW3 := Lib.hid hW3
  obtain ⟨g, hg⟩ : ∃ g, g = W2.heap.size := ⟨_, rfl⟩
  rw [← hg] at hb
  have HG := Lib.hid hg
  have HK3 := Lib.hid hb
  have hsl : ∀ W, (Instr.sliceAt 32 (.pointer (some ⟨g, 0, none⟩)) (some (.int .i64 24)) none none).run Tryd.prog W = .ok (.slice (some ⟨g, 24, none⟩) 8 8) W := fun W => slice_back W g 24 (by decide)
  clear b2 n2 hW3 hb b3 HB1 hg
  go_upto_region 2 with (refine wpList_store_row rfl 32 (.tmp 3) (.tmp 6) rfl W2.heap.size D rfl rfl 32 z32 HN2.out HDK.out.info HDO.out HDK.out.one ?_)
  rw [← HW3.out, ← HG.out]
  clear HW3 HG
  go_wp2_with fail
  clear hsl
  refine (answer (number_ref g 24 ((kdig k).drop 24) 8 8 (by simp [kdig_length]) (by simp [kdig_length]) W3 (fun j h => by
    have hj : j < 8 := by simpa [kdig_length] using h
    rw [HK3.out.cell, HD.out, byv_get _ _ (by rw [kdig_length]; omega)]
    simp)) (show Value.int .u64 ((num (txt ((kdig k).drop 24)) 0 8 : Nat) : Int) = .int .u64 (idsn k : Int) by rw [idsn])).mono ?_
  rintro e W4 ⟨rfl, rfl⟩
  have hle := idsn_le k
  go_wp2_with fail
  go_ret; exact ⟨rfl, HB3.out⟩

set_option maxRecDepth 100000 in
theorem MacR_any (f s : Nat) (hf : f ≤ 18446744073709551615) (hs : s ≤ 18446744073709551615) (a b : Nat) (ha : a ≤ 4294967295) (hb : b ≤ 4294967295) (D : Array Value) (hD : D = byv (macn f s a b)) (w : World) :
    Calls Tryd.prog 17 #[.int .u64 (f : Int), .int .u64 (s : Int), .int .u32 (a : Int), .int .u32 (b : Int)] w fun e w' => e = .returned (.agg D) ∧ Below w.heap.size w w' := by
  obtain ⟨z32, hz32⟩ : ∃ z32, z32 = byv (List.replicate 32 0) := ⟨_, rfl⟩
  have hdz := digest_zero
  rw [← hz32] at hdz
  have HZK := Lib.hid (show DOk z32 by rw [hz32]; exact dok_zero)
  have HDK := Lib.hid (show DOk D by rw [hD]; exact dok _ (macn_length _ _ _ _))
  obtain ⟨F, hF⟩ : ∃ T, T = txt (be 8 f) := ⟨_, rfl⟩
  obtain ⟨S, hS⟩ : ∃ T, T = txt (be 8 s) := ⟨_, rfl⟩
  obtain ⟨K, hK⟩ : ∃ K, K = F ++ S := ⟨_, rfl⟩
  have hFs : F.size = 8 := by rw [hF]; exact be_len 8 f
  have hSs : S.size = 8 := by rw [hS]; exact be_len 8 s
  have hKs : K.size = 16 := by rw [hK, ByteArray.size_append]; omega
  have hcat := fun W => run_string_add (P := Tryd.prog) W F S (by omega) (by omega)
  have eK := hK.symm
  obtain ⟨A, hA⟩ : ∃ T, T = txt (be 4 a) := ⟨_, rfl⟩
  have hAs : A.size = 4 := by rw [hA]; exact be_len 4 a
  obtain ⟨X, hX⟩ : ∃ X, X = A ++ txt (be 4 b) := ⟨_, rfl⟩
  have hXs : X.size = 8 := by rw [hX, ByteArray.size_append, hAs, be_len]
  have HDC := Lib.hid (show D = byv (code K.data.toList X.data.toList) by rw [hD, hK, hF, hS, hX, hA, macn, mac]; simp)
  have s1 : (w.alloc (.cells z32 32)).heap.size = w.heap.size + 1 := World.size_alloc _ _
  have HR1 := Lib.hid (Blk.new w 32 z32)
  have HB1 := Lib.hid ((Below.refl w.heap.size w).alloc (Nat.le_refl _) (.cells z32 32))
  have HF := Lib.hid hF
  have HS := Lib.hid hS
  have HA := Lib.hid hA
  have HX := Lib.hid hX
  clear hz32 hD hF hS hK hA hX
  go_enter Tryd.func17, Tryd.ntmps17
  go_wp2_with fail
  refine (Bytes_ref f hf F HF.out _).mono ?_
  rintro e W2 ⟨rfl, b2⟩
  rw [s1] at b2
  have HR2 := Lib.hid (HR1.out.below b2 (by omega))
  have HB2 := Lib.hid (HB1.out.trans (b2.mono (by omega)))
  clear b2 HR1 HB1 s1
  go_wp2_with fail
  refine (Bytes_ref s hs S HS.out _).mono ?_
  rintro e W3 ⟨rfl, b3⟩
  have HR3 := Lib.hid (HR2.out.below b3 HR2.out.lt)
  have HB3 := Lib.hid (HB2.out.trans (b3.mono HB2.out.size))
  clear b3 HR2 HB2
  go_wp2_with fail
  refine (answer (Put_ref ⟨#[]⟩ a 4 W3 (by decide) (by omega) (by decide)) (show Value.string ((⟨#[]⟩ : ByteArray) ++ ⟨(be 4 a).toArray⟩) = .string A by rw [none_and, HA.out])).mono ?_
  rintro e W4 ⟨rfl, b4⟩
  have HR4 := Lib.hid (HR3.out.below b4 HR3.out.lt)
  have HB4 := Lib.hid (HB3.out.trans (b4.mono HB3.out.size))
  clear b4 HR3 HB3
  go_wp2_with fail
  refine (answer (Put_ref A b 4 W4 (by omega) (by omega) (by decide)) (show Value.string (A ++ ⟨(be 4 b).toArray⟩) = .string X by rw [HX.out])).mono ?_
  rintro e W5 ⟨rfl, b5⟩
  have HR5 := Lib.hid (HR4.out.below b5 HR4.out.lt)
  have HB5 := Lib.hid (HB4.out.trans (b5.mono HB4.out.size))
  clear b5 HR4 HB4 hcat eK
  go_wp2_with fail
  refine (OfR_any K X D HDC.out W5 (by omega) (by omega)).mono ?_
  rintro e W6 ⟨rfl, b6⟩
  have HR6 := Lib.hid (HR5.out.below b6 HR5.out.lt)
  have HB6 := Lib.hid (HB5.out.trans (b6.mono HB5.out.size))
  have HDO := Lib.hid (show z32.size = D.size by rw [HZK.out.size, HDK.out.size])
  have HRW := Lib.hid (show Blk (W6.setRow w.heap.size D) w.heap.size 32 D from setRow_heap _ _ _ _ _ _ HR6.out)
  have HBW := Lib.hid (below_setRow HB6.out (Nat.le_refl _) D)
  clear b6 HR5 HB5
  go_wp2_with (refine wpList_store_row rfl 32 (.tmp 8) (.tmp 20) rfl w.heap.size D rfl rfl 32 z32 HR6.out HDK.out.info HDO.out HDK.out.one ?_)
  refine bodyPost_ret (results_cell_row rfl _ _ w.heap.size 32 D (0, 0) _ rfl HRW.out digest_under rfl HDK.out.info) rfl ⟨rfl, HBW.out⟩

set_option maxHeartbeats 1000000 in
set_option maxRecDepth 100000 in
theorem AddressR_any (f s : Nat) (hf : f ≤ 18446744073709551615) (hs : s ≤ 18446744073709551615) (id : Int) (ip : ByteArray) (hip : ip.size ≤ 80000) (h : Bool) (port : Int) (i p : Nat) (hi : id % 256 = (i : Int)) (hp : (if h then port % 65536 else 0) = (p : Int))
    (T : ByteArray) (hT : T = txt (told f s i ip.data.toList p)) (w : World) :
    Calls Tryd.prog 22 #[.int .u64 (f : Int), .int .u64 (s : Int), adr id ip h port] w fun e w' => e = .returned (.string T) ∧ Below w.heap.size w w' := by
  obtain ⟨z32, hz32⟩ : ∃ z32, z32 = byv (List.replicate 32 0) := ⟨_, rfl⟩
  have hdz := digest_zero
  rw [← hz32] at hdz
  have HZK := Lib.hid (show DOk z32 by rw [hz32]; exact dok_zero)
  obtain ⟨pp, hpp⟩ : ∃ pp : Int, pp = if h then port else 0 := ⟨_, rfl⟩
  obtain ⟨U, hU⟩ : ∃ U : Nat, id % 18446744073709551616 = (U : Int) := ⟨(id % 18446744073709551616).toNat, by omega⟩
  obtain ⟨V, hV⟩ : ∃ V : Nat, pp % 18446744073709551616 = (V : Int) := ⟨(pp % 18446744073709551616).toNat, by omega⟩
  have u0 : U ≤ 18446744073709551615 := by omega
  have v0 : V ≤ 18446744073709551615 := by omega
  have eU : be 1 U = be 1 i := be_one U i (by omega)
  have eV : be 2 V = be 2 p := be_two V p (by cases h <;> simp at hp hpp <;> omega)
  obtain ⟨I, hI⟩ : ∃ T, T = txt (be 1 U) := ⟨_, rfl⟩
  have hIs : I.size = 1 := by rw [hI]; exact be_len 1 U
  obtain ⟨J, hJ⟩ : ∃ J, J = I ++ ip := ⟨_, rfl⟩
  have hJs : J.size ≤ 80001 := by rw [hJ, ByteArray.size_append]; omega
  obtain ⟨X, hX⟩ : ∃ X, X = J ++ txt (be 2 V) := ⟨_, rfl⟩
  have hXs : X.size ≤ 80003 := by rw [hX, ByteArray.size_append, be_len]; omega
  have hXd : X.data.toList = addr i ip.data.toList p := by rw [hX, hJ, hI, addr, eU, eV]; simp
  obtain ⟨F, hF⟩ : ∃ T, T = txt (be 8 f) := ⟨_, rfl⟩
  obtain ⟨S, hS⟩ : ∃ T, T = txt (be 8 s) := ⟨_, rfl⟩
  obtain ⟨K, hK⟩ : ∃ K, K = F ++ S := ⟨_, rfl⟩
  have hFs : F.size = 8 := by rw [hF]; exact be_len 8 f
  have hSs : S.size = 8 := by rw [hS]; exact be_len 8 s
  have hKs : K.size = 16 := by rw [hK, ByteArray.size_append]; omega
  have hcat := fun W => run_string_add (P := Tryd.prog) W F S (by omega) (by omega)
  have eK := hK.symm
  obtain ⟨D, hD⟩ : ∃ D, D = byv (mac f s (addr i ip.data.toList p)) := ⟨_, rfl⟩
  have HDK := Lib.hid (show DOk D by rw [hD]; exact dok _ (mac_length _ _ _))
  have HDC := Lib.hid (show D = byv (code K.data.toList X.data.toList) by rw [hD, hXd, hK, hF, hS, mac]; simp)
  have HD := Lib.hid hD
  have HF := Lib.hid hF
  have HS := Lib.hid hS
  have HU := Lib.hid hU
  have HV := Lib.hid hV
  have HI := Lib.hid hI
  have HJ := Lib.hid hJ
  have HX := Lib.hid hX
  have HPP := Lib.hid hpp
  have HT := Lib.hid hT
  obtain ⟨w0, hw0⟩ : ∃ w0, w0 = w.alloc (.cells #[.int .i64 id, .string ip, .bool h, .int .i64 port] 38) := ⟨_, rfl⟩
  have b0 : Below w.heap.size w w0 := by rw [hw0]; exact (Below.refl _ _).alloc (Nat.le_refl _) _
  have n0 : Blk w0 w.heap.size 38 #[.int .i64 id, .string ip, .bool h, .int .i64 port] := by rw [hw0]; exact Blk.new _ _ _
  have c2 := n0.cell 2
  have c3 := n0.cell 3
  have HN0 := Lib.hid n0
  have HB0 := Lib.hid b0
  have ew0 := hw0.symm
  clear hz32 hD hF hS hK hU hV hI hJ hX hXd eU eV hi hp hpp hT hw0 b0 n0
  go_enter Tryd.func22, Tryd.ntmps22
  go_upto_if 11 with fail
  go_cut [7] (fun x wx => x = .int .i64 pp ∧ wx = w0)
  case first =>
    cases h
    · have ep : pp = 0 := by simpa using HPP.out
      go_wp2_with fail
      go_meet
      exact ⟨by rw [ep], rfl⟩
    · have ep : pp = port := by simpa using HPP.out
      go_wp2_with fail
      go_meet
      exact ⟨by rw [ep], rfl⟩
  case rest =>
    obtain ⟨rfl, rfl⟩ := hcut
    clear ew0 c2 c3
    go_upto_region 4 with fail
    go_cut [8] (fun x wx => x = .string X ∧ Below w.heap.size w wx)
    case first =>
      have B0 : Below wc.heap.size wc wc.drew := (Below.refl _ wc).drew
      refine held_start (fun W => Below wc.heap.size wc W) (by kernel_rfl) (n := 11) rfl ?_
      obtain ⟨W0, hW0⟩ : ∃ W0, W0 = wc.drew := ⟨_, rfl⟩
      rw [← hW0] at B0 ⊢
      clear hW0
      refine held_free 0 (.pointer (some ⟨w.heap.size, 0, none⟩)) rfl (by kernel_rfl) (by kernel_rfl) (by kernel_rfl) (by kernel_rfl) B0 (fun _ _ => ex_field (v := .pointer (some ⟨w.heap.size, 0, none⟩)) 38 (.tmp 5) 0 (by kernel_rfl) (by kernel_rfl) (by kernel_rfl)) ?_
      refine held_free 1 (.int .i64 id) rfl (by kernel_rfl) (by kernel_rfl) (by kernel_rfl) (by kernel_rfl) B0 (fun W b => ex_load 3 (.tmp 14) (by kernel_rfl) ⟨w.heap.size, 0, none⟩ (by kernel_rfl) (by kernel_rfl) ((HN0.out.below b HN0.out.lt).cell 0)) ?_
      refine held_free 2 (.int .u64 (U : Int)) rfl (by kernel_rfl) (by kernel_rfl) (by kernel_rfl) (by kernel_rfl) B0 (fun W _ => ex_convert_to (v := .int .i64 id) 3 22 (.tmp 15) (by kernel_rfl) (by kernel_rfl) (conv_i64_u64 _ U HU.out W)) ?_
      refine held_free 4 (.pointer (some ⟨w.heap.size, 1, none⟩)) rfl (by kernel_rfl) (by kernel_rfl) (by kernel_rfl) (by kernel_rfl) B0 (fun _ _ => ex_field (v := .pointer (some ⟨w.heap.size, 0, none⟩)) 38 (.tmp 5) 1 (by kernel_rfl) (by kernel_rfl) (by kernel_rfl)) ?_
      refine held_free 5 (.string ip) rfl (by kernel_rfl) (by kernel_rfl) (by kernel_rfl) (by kernel_rfl) B0 (fun W b => ex_load 9 (.tmp 18) (by kernel_rfl) ⟨w.heap.size, 1, none⟩ (by kernel_rfl) (by kernel_rfl) ((HN0.out.below b HN0.out.lt).cell 1)) ?_
      refine held_free 7 (.int .i64 pp) rfl (by kernel_rfl) (by kernel_rfl) (by kernel_rfl) (by kernel_rfl) B0 (fun _ _ => by kernel_rfl) ?_
      refine held_free 8 (.int .u64 (V : Int)) rfl (by kernel_rfl) (by kernel_rfl) (by kernel_rfl) (by kernel_rfl) B0 (fun W _ => ex_convert_to (v := .int .i64 pp) 3 22 (.tmp 21) (by kernel_rfl) (by kernel_rfl) (conv_i64_u64 _ V HV.out W)) ?_
      refine held_call 3 rfl (by kernel_rfl) (by kernel_rfl) (by kernel_rfl) (answer (Put_ref ⟨#[]⟩ U 1 _ (by decide) u0 (by decide)) (show Value.string ((⟨#[]⟩ : ByteArray) ++ ⟨(be 1 U).toArray⟩) = .string I by rw [none_and, HI.out])) (fun w' h => bel_in B0 h) ?_
      intro W1 hW1
      have B1 := bel_in B0 hW1
      clear hW1 B0
      refine held_free 6 (.string J) rfl (by kernel_rfl) (by kernel_rfl) (by kernel_rfl) (by kernel_rfl) B1 (fun _ _ => ex_strcat 9 9 (.tmp 17) (.tmp 19) (by kernel_rfl) (I) (ip) J (by kernel_rfl) (by kernel_rfl) (by omega) (by omega) HJ.out) ?_
      refine held_call 9 rfl (by kernel_rfl) (by kernel_rfl) (by kernel_rfl) (answer (Put_ref J V 2 _ (by omega) v0 (by decide)) (show Value.string (J ++ ⟨(be 2 V).toArray⟩) = .string X by rw [HX.out])) (fun w' h => bel_in B1 h) ?_
      intro W2 hW2
      have B2 := bel_in B1 hW2
      clear hW2 B1
      refine held_free 10 (.string X) rfl (by kernel_rfl) (by kernel_rfl) (by kernel_rfl) (by kernel_rfl) B2 (fun _ _ => by kernel_rfl) ?_
      refine held_end_at ⟨#[.int .u64 (f : Int), .int .u64 (s : Int), adr id ip h port, undef, undef, .pointer (some ⟨w.heap.size, 0, none⟩), .string ⟨#[]⟩, .int .i64 pp, .string X, undef, u10, u11, u12, u13, .pointer (some ⟨w.heap.size, 0, none⟩), .int .i64 id, .int .u64 (U : Int), .string I, .pointer (some ⟨w.heap.size, 1, none⟩), .string ip, .string J, .int .i64 pp, .int .u64 (V : Int), .string X, u24, u25, u26, u27, u28, u29, u30, u31, u32], []⟩ (by kernel_rfl) (by kernel_rfl) ?_
      go_wp2_with fail
      go_meet
      exact ⟨rfl, HB0.out.trans (B2.mono HB0.out.size)⟩
    case rest =>
      obtain ⟨rfl, hb1⟩ := hcut
      have HB1 := Lib.hid hb1
      clear hb1 HB0
      go_wp2_with fail
      refine (Bytes_ref f hf F HF.out _).mono ?_
      rintro e W2 ⟨rfl, b2⟩
      have HB2 := Lib.hid (HB1.out.trans (b2.mono HB1.out.size))
      clear b2 HB1
      go_wp2_with fail
      refine (Bytes_ref s hs S HS.out _).mono ?_
      rintro e W3 ⟨rfl, b3⟩
      have HB3 := Lib.hid (HB2.out.trans (b3.mono HB2.out.size))
      clear b3 HB2
      go_wp2_with fail
      refine (OfR_any K X D HDC.out W3 (by omega) (by omega)).mono ?_
      rintro e W4 ⟨rfl, b4⟩
      have n4 := Blk.new W4 32 z32
      obtain ⟨W5, hW5⟩ : ∃ W5, W5 = (W4.alloc (.cells z32 32)).setRow W4.heap.size D := ⟨_, rfl⟩
      have hb : Blk W5 W4.heap.size 32 D := by rw [hW5]; exact setRow_heap _ _ _ _ _ _ n4
      have b5 : Below W4.heap.size W4 W5 := by rw [hW5]; exact below_setRow ((Below.refl _ W4).alloc (Nat.le_refl _) _) (Nat.le_refl _) _
      have HB5 := Lib.hid (HB3.out.trans ((b4.trans (b5.mono b4.size)).mono HB3.out.size))
      have HN4 := Lib.hid n4
      have HDO := Lib.hid (show z32.size = D.size by rw [HZK.out.size, HDK.out.size])
      have HW5 := Lib.hid hW5
      obtain ⟨g, hg⟩ : ∃ g, g = W4.heap.size := ⟨_, rfl⟩
      rw [← hg] at hb
      have HG := Lib.hid hg
      have hsl : ∀ W, (Instr.sliceAt 32 (.pointer (some ⟨g, 0, none⟩)) (some (.int .i64 24)) none none).run Tryd.prog W = .ok (.slice (some ⟨g, 24, none⟩) 8 8) W := fun W => slice_back W g 24 (by decide)
      have hcv : (convert 35 9 (.slice (some ⟨g, 24, none⟩) 8 8)).run Tryd.prog W5 = .ok (.string T) W5 := by
        have q := conv_back W5 g 32 (mac f s (addr i ip.data.toList p)) 24 8 (by rw [← HD.out]; exact hb) (mac_length _ _ _) (by decide)
        rw [HT.out, told]; exact q
      clear b4 n4 hW5 hb b5 HB3 hg
      go_upto_region 6 with (refine wpList_store_row rfl 32 (.tmp 9) (.tmp 30) rfl W4.heap.size D rfl rfl 32 z32 HN4.out HDK.out.info HDO.out HDK.out.one ?_)
      rw [← HW5.out, ← HG.out]
      clear HW5 HG
      go_wp2_with fail
      go_ret; exact ⟨rfl, HB5.out⟩
end Go.Proofs.YtcbakfnpbhgjoaaDoor
