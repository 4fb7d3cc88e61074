/-
  Zeros behind a key make no difference; a long key is as its sum; the code is made of two sums (statement HmacKeys, promises P7.1, P7.3), of all keys, texts and numbers of zeros, without condition but the tables' own initial values, which the card ties to the program's text.
-/
import Derived.Test.YtaeedicihildoaaDoorShaOpen
import Derived.Test.YtaeedicihildoaaDoorHmacWorks
import Derived.Test.YtaeedicihildoaaDoorTextOps
import Derived.Laws.BitsAllLaws
import Derived.Deep.QuietTactic
import Derived.BigQuiet
import Derived.Deep.DeepCutAuto
import Derived.Deep.CutBlock
namespace Go.Proofs.YtaeedicihildoaaDoor.hmacKeys
open Go.ChangeShapes Go.WideShapes Go.ChangeAt Go.RowKit
set_option linter.unusedVariables false

/-- A front of a text, 200 bytes at most. -/
theorem front (s : ByteArray) : ∃ (m : Nat) (z : ByteArray), z = s.extract 0 m ∧ z.size = m ∧ (if (200 : Int) < (s.size : Int) then (200 : Int) else (s.size : Int)) = (m : Int) ∧ (m : Int) ≤ s.size ∧ m ≤ 200 := by
  refine ⟨min s.size 200, _, rfl, ?_, ?_, ?_, ?_⟩
  · rw [ByteArray.size_extract]; omega
  · split <;> omega
  · omega
  · omega


/-- A row of 64 bytes that is laid as far as k. -/
def kmix (l : List UInt8) (k : Nat) : List UInt8 := l.take k ++ List.replicate (64 - k) 0
theorem kmix_start (l : List UInt8) : kmix l 0 = List.replicate 64 0 := by simp [kmix]
theorem kmix_end (l : List UInt8) (h : l.length = 64) : kmix l 64 = l := by simp [kmix, ← h]
theorem kmix_length (l : List UInt8) (k : Nat) (h : l.length = 64) (hk : k ≤ 64) : (kmix l k).length = 64 := by simp [kmix]; omega
theorem kmix_set (l : List UInt8) (k : Nat) (h : l.length = 64) (hk : k < 64) : (kmix l k).set k (l[k]'(by omega)) = kmix l (k + 1) := by
  unfold kmix
  rw [List.set_append_right _ _ (by simp; omega), List.length_take, show k - min k l.length = 0 by omega, show 64 - k = (64 - (k + 1)) + 1 by omega, List.replicate_succ, List.set_cons_zero, List.take_succ_eq_append_getElem (by omega), List.append_assoc]
  rfl
theorem kmix_get (l : List UInt8) (k : Nat) (h : l.length = 64) (hk : k < 64) : (byv (kmix l k))[k]? = some (.int .u8 0) := by
  have h1 : (kmix l k)[k]? = some 0 := by
    unfold kmix
    rw [List.getElem?_append_right (by simp; omega), List.length_take, show k - min k l.length = 0 by omega, List.getElem?_replicate, if_pos (by omega)]
  have h2 := byv_get (kmix l k) k (by rw [kmix_length l k h (by omega)]; exact hk)
  rw [h2]
  rw [List.getElem?_eq_getElem (by rw [kmix_length l k h (by omega)]; exact hk)] at h1
  rw [Option.some.inj h1]; rfl
set_option maxHeartbeats 4000000 in
set_option maxRecDepth 100000 in
theorem walk (a : ByteArray) (za : a.size ≤ 140737488351232) (b : ByteArray) (zb : b.size ≤ 140737488351232) (a2 : Int) (r2 : 0 ≤ a2 ∧ a2 ≤ 255) (w : World) (ht : Tbl w) :
    Calls Tryd.prog 5 #[.string a, .string b, .int .u8 a2] w fun e w' => e = .returned (.bool true) ∧ Below w.heap.size w w' := by
  obtain ⟨m0, F, hF, nF, mF, lF, uF⟩ := front a
  obtain ⟨m1, G, hG, nG, mG, lG, uG⟩ := front b
  obtain ⟨z32, hz32⟩ : ∃ z32, z32 = byv (List.replicate 32 0) := ⟨_, rfl⟩
  have hdz := digest_zero
  rw [← hz32] at hdz
  have HZK := Lib.hid (show DOk z32 by rw [hz32]; exact dok_zero)
  have HT := Lib.hid ht
  have eF := hF.symm
  have eG := hG.symm
  clear ht hF hG hz32
  go_enter Tryd.func5, Tryd.ntmps5
  go_wp2_with fail
  refine (works_t w HT.out).mono ?_
  rintro e W0 ⟨rfl, b0⟩
  have HT0 := Lib.hid (HT.out.below b0)
  have HB0 := Lib.hid b0
  clear b0 HT
  go_wp2_with fail
  go_quiet (fail)
  have n0 : min (a.size : Int) 200 = (m0 : Int) := by split at mF <;> omega
  have n1 : min (b.size : Int) 200 = (m1 : Int) := by split at mG <;> omega
  rw [n0, n1, Int.toNat_natCast, Int.toNat_natCast, eF, eG]
  obtain ⟨W1, hW1⟩ : ∃ W1, W1 = W0.drewN nq := ⟨_, rfl⟩
  have HT1 := Lib.hid (show Tbl W1 by rw [hW1]; exact HT0.out.drewN nq)
  have HB1 := Lib.hid (show Below w.heap.size w W1 by rw [hW1]; exact below_drewN HB0.out nq)
  rw [← hW1]
  have fs : F.size ≤ 200 := by omega
  have gs : G.size ≤ 200 := by omega
  obtain ⟨d, hd⟩ : ∃ d, d = code F.data.toList G.data.toList := ⟨_, rfl⟩
  have hd32 : d.length = 32 := by rw [hd, code_length]
  obtain ⟨D, hD⟩ : ∃ D, D = byv d := ⟨_, rfl⟩
  have HDK := Lib.hid (show DOk D by rw [hD]; exact dok _ hd32)
  have HD0 := Lib.hid hD
  have HD := Lib.hid (show D = byv (code F.data.toList G.data.toList) by rw [hD, hd])
  have HDC := Lib.hid hd
  clear hW1 mF mG n0 n1 eF eG nF nG lF lG hd hD HT0 HB0 uF uG
  go_wp2_with fail
  refine (Of_any F G D HD.out W1 HT1.out (by omega) (by omega)).mono ?_
  rintro e W2 ⟨rfl, b2⟩
  have n2 := Blk.new W2 23 z32
  obtain ⟨W3, hW3⟩ : ∃ W3, W3 = (W2.alloc (.cells z32 23)).setRow W2.heap.size D := ⟨_, rfl⟩
  have hb : Blk W3 W2.heap.size 23 D := by rw [hW3]; exact setRow_heap _ _ _ _ _ _ n2
  have b3 : Below W2.heap.size W2 W3 := by rw [hW3]; exact below_setRow ((Below.refl _ W2).alloc (Nat.le_refl _) _) (Nat.le_refl _) _
  have HT3 := Lib.hid ((HT1.out.below b2).below b3)
  have HB3 := Lib.hid (HB1.out.trans ((b2.trans (b3.mono b2.size)).mono HB1.out.size))
  have HN2 := Lib.hid n2
  have HDO := Lib.hid (show z32.size = D.size by rw [HZK.out.size, HDK.out.size])
  have HW3 := Lib.hid hW3
  obtain ⟨gw, hgw⟩ : ∃ gw, gw = W2.heap.size := ⟨_, rfl⟩
  rw [← hgw] at hb
  have HK3 := Lib.hid hb
  have HGW := Lib.hid hgw
  clear b2 n2 hW3 hb b3 HT1 HB1 hgw
  go_upto_if 31 with (refine wpList_store_row rfl 23 (.tmp 7) (.tmp 28) rfl W2.heap.size D rfl rfl 23 z32 HN2.out HDK.out.info HDO.out HDK.out.one ?_)
  rw [← HW3.out, ← HGW.out]
  clear HW3 HGW
  go_cut [0] (fun s wx => ∃ K : ByteArray, s = .string K ∧ K.data.toList = kb F.data.toList ∧ Tbl wx ∧ Blk wx gw 23 D ∧ Below w.heap.size w wx)
  case first =>
    by_cases h64 : 64 < F.size
    · have h64' : (F.size : Int) > 64 := by omega
      obtain ⟨s, hs⟩ : ∃ s, s = digest F.data.toList := ⟨_, rfl⟩
      have hs32 : s.length = 32 := by rw [hs, digest_length]
      obtain ⟨S, hS⟩ : ∃ S, S = byv s := ⟨_, rfl⟩
      have HSK := Lib.hid (show DOk S by rw [hS]; exact dok _ hs32)
      have HSV := Lib.hid (show S = byv (digest F.data.toList) by rw [hS, hs])
      have HKB := Lib.hid (show kb F.data.toList = s by unfold kb; rw [if_pos (by rw [len_data]; exact h64), hs])
      have HS := Lib.hid hS
      clear hs hS
      go_wp2_with fail
      refine (SumL F _ S W3 rfl HSV.out HT3.out (by rw [len_data]; omega)).mono ?_
      rintro e W4 ⟨rfl, b4⟩
      have n4 := Blk.new W4 23 z32
      obtain ⟨W5, hW5⟩ : ∃ W5, W5 = (W4.alloc (.cells z32 23)).setRow W4.heap.size S := ⟨_, rfl⟩
      have hb : Blk W5 W4.heap.size 23 S := by rw [hW5]; exact setRow_heap _ _ _ _ _ _ n4
      have b5 : Below W4.heap.size W4 W5 := by rw [hW5]; exact below_setRow ((Below.refl _ W4).alloc (Nat.le_refl _) _) (Nat.le_refl _) _
      have HT5 := Lib.hid ((HT3.out.below b4).below b5)
      have HK5 := Lib.hid ((HK3.out.below b4 HK3.out.lt).below b5 (Nat.lt_of_lt_of_le HK3.out.lt b4.size))
      have HB5 := Lib.hid (HB3.out.trans ((b4.trans (b5.mono b4.size)).mono HB3.out.size))
      have HN4 := Lib.hid n4
      have HSO := Lib.hid (show z32.size = S.size by rw [HZK.out.size, HSK.out.size])
      have hsl := fun W => slice_all W W4.heap.size
      have hcv := conv_front W5 W4.heap.size 23 s 32 32 (by rw [← HS.out]; exact hb) (by omega)
      rw [List.take_of_length_le (by omega)] at hcv
      obtain ⟨K, hK⟩ : ∃ K, K = txt s := ⟨_, rfl⟩
      rw [← hK] at hcv
      have HKD := Lib.hid (show K.data.toList = kb F.data.toList by rw [hK, HKB.out])
      have hks : K.size ≤ 200 := by rw [← len_data, HKD.out, HKB.out]; omega
      have HDK2 := Lib.hid (show D = byv (code K.data.toList G.data.toList) by rw [HKD.out, code_kb]; exact HD.out)
      have HW5 := Lib.hid hW5
      obtain ⟨g4, hg4⟩ : ∃ g4, g4 = W4.heap.size := ⟨_, rfl⟩
      rw [← hg4] at hsl hcv
      have HG4 := Lib.hid hg4
      clear b4 n4 hW5 hb b5 hK hg4
      go_wp2_with (refine wpList_store_row rfl 23 (.tmp 8) (.tmp 33) rfl W4.heap.size S rfl rfl 23 z32 HN4.out HSK.out.info HSO.out HSK.out.one ?_)
      rw [← HW5.out, ← HG4.out]
      clear HW5 HG4
      go_wp2_with fail
      rw [hcv]
      go_wp2_with fail
      have BW : Below W5.heap.size W5 W5.drew := (Below.refl _ W5).drew
      refine held_start (fun W => Below W5.heap.size W5 W) (by kernel_rfl) (n := 5) rfl ?_
      obtain ⟨W9, hW9⟩ : ∃ W9, W9 = W5.drew := ⟨_, rfl⟩
      rw [← hW9] at BW ⊢
      clear hW9
      refine held_free 0 (.string K) rfl (by kernel_rfl) (by kernel_rfl) (by kernel_rfl) (by kernel_rfl) BW (fun _ _ => by kernel_rfl) ?_
      refine held_free 1 (.string G) rfl (by kernel_rfl) (by kernel_rfl) (by kernel_rfl) (by kernel_rfl) BW (fun _ _ => by kernel_rfl) ?_
      refine held_free 3 (.agg D) rfl (by kernel_rfl) (by kernel_rfl) (by kernel_rfl) (by kernel_rfl) BW (fun W b => exec_row_ 23 (.tmp 7) (by kernel_rfl) gw (by kernel_rfl) 23 D (0, 0) _ (HK5.out.below b HK5.out.lt) digest_under rfl HDK.out.info) ?_
      refine held_call 2 rfl (by kernel_rfl) (by kernel_rfl) (by kernel_rfl) (Of_any K G D HDK2.out _ (HT5.out.below BW) (by omega) (by omega)) (fun w' h => bel_in BW h) ?_
      intro q hq
      have BQ := bel_in BW hq
      refine held_free 4 (.bool false) rfl (by kernel_rfl) (by kernel_rfl) (by kernel_rfl) (by kernel_rfl) BQ (fun W _ => ex_digneq 23 (.tmp 38) (.tmp 39) (by kernel_rfl) d hd32 D HD0.out (by kernel_rfl) (by kernel_rfl)) ?_
      refine held_end (by kernel_rfl) ?_
      have HE := Lib.hid (And.intro (HT5.out.below BQ) (And.intro (HK5.out.below BQ HK5.out.lt) (HB5.out.trans (BQ.mono HB5.out.size))))
      clear BW BQ hq
      go_wp2_with fail
      go_meet
      exact ⟨K, rfl, HKD.out, HE.out⟩
    · have h64' : ¬ ((F.size : Int) > 64) := by omega
      go_wp2_with fail
      go_meet
      exact ⟨F, rfl, (by unfold kb; rw [if_neg (by rw [len_data]; exact h64)]), HT3.out, HK3.out, HB3.out⟩
  case rest =>
    obtain ⟨K, rfl, hK, ht6, hk6, hb6⟩ := hcut
    have hks : K.size ≤ 64 := by rw [← len_data, hK]; exact kb_le _
    obtain ⟨c, hc⟩ : ∃ c, c = 65 - K.size := ⟨_, rfl⟩
    obtain ⟨z, hz⟩ : ∃ z : Nat, (z : Int) = a2 := ⟨a2.toNat, by omega⟩
    obtain ⟨n, hn⟩ : ∃ n, n = z % c := ⟨_, rfl⟩
    have hnl : n < c := by rw [hn]; exact Nat.mod_lt _ (by omega)
    have w65 : (65 : Int) - (K.size : Int) = (c : Int) := by omega
    have hc0 : ¬ ((c : Int) = 0) := by omega
    have hrem : a2.tmod (c : Int) = (n : Int) := by rw [← hz, Int.tmod_eq_emod_of_nonneg (by omega), hn]; rfl
    have wz : wrap64 a2 = a2 := by unfold wrap64; omega
    have hmk := fun W => make_any W n .i64 (by omega)
    obtain ⟨ZS, hZS⟩ : ∃ ZS, ZS = byv (List.replicate n 0) := ⟨_, rfl⟩
    obtain ⟨Z, hZ⟩ : ∃ Z, Z = txt (List.replicate n 0) := ⟨_, rfl⟩
    obtain ⟨W6, hW6⟩ : ∃ W6, W6 = wc.alloc (.cells ZS 5) := ⟨_, rfl⟩
    have hcv := bytes_txt W6 wc.heap.size n n (List.replicate n 0) (by rw [hW6, hZS]; exact Blk.new wc _ _) (by simp)
    rw [← hZ] at hcv
    simp only [← hZS] at hmk
    have hzs : Z.size = n := by rw [hZ]; simp [ByteArray.size]
    obtain ⟨L, hL⟩ : ∃ L, L = K ++ Z := ⟨_, rfl⟩
    have hls : L.size ≤ 64 := by rw [hL, ByteArray.size_append, hzs]; omega
    have hcat := fun W => run_string_add (P := Tryd.prog) W K Z (by omega) (by omega)
    have HLD := Lib.hid (show L.data.toList = K.data.toList ++ List.replicate n 0 by rw [hL, hZ, ByteArray.data_append]; simp)
    have HDK2 := Lib.hid (show D = byv (code L.data.toList G.data.toList) by rw [HLD.out, code_zeros _ _ _ (by rw [len_data]; omega), hK, code_kb]; exact HD.out)
    have HDK3 := Lib.hid (show d = digest (mixd K.data.toList 0x5c ++ digest (mixd K.data.toList 0x36 ++ G.data.toList)) by rw [HDC.out, code, hK])
    have HT6 := Lib.hid (show Tbl W6 by rw [hW6]; exact ht6.alloc _)
    have HK6 := Lib.hid (show Blk W6 gw 23 D by rw [hW6]; exact hk6.alloc _)
    have HB6 := Lib.hid (show Below w.heap.size w W6 by rw [hW6]; exact hb6.alloc hb6.size _)
    have HW6 := Lib.hid hW6
    have eL := hL.symm
    clear hK ht6 hk6 hb6 hc hn hz hZS hZ hL hW6 HT3 HK3 HB3
    go_wp2_with fail
    rw [← HW6.out, hcv]
    clear hcv hmk wz hrem hc0 w65
    go_wp2_with fail
    clear eL hcat
    go_upto_region 11 with fail
    go_cut [55] (fun x wx => x = .bool false ∧ Tbl wx ∧ Blk wx gw 23 D ∧ Below w.heap.size w wx)
    case first =>
      have BW : Below W6.heap.size W6 W6.drew := (Below.refl _ W6).drew
      refine held_start (fun W => Below W6.heap.size W6 W) (by kernel_rfl) (n := 5) rfl ?_
      obtain ⟨W9, hW9⟩ : ∃ W9, W9 = W6.drew := ⟨_, rfl⟩
      rw [← hW9] at BW ⊢
      clear hW9
      refine held_free 0 (.string L) rfl (by kernel_rfl) (by kernel_rfl) (by kernel_rfl) (by kernel_rfl) BW (fun _ _ => by kernel_rfl) ?_
      refine held_free 1 (.string G) rfl (by kernel_rfl) (by kernel_rfl) (by kernel_rfl) (by kernel_rfl) BW (fun _ _ => by kernel_rfl) ?_
      refine held_free 3 (.agg D) rfl (by kernel_rfl) (by kernel_rfl) (by kernel_rfl) (by kernel_rfl) BW (fun W b => exec_row_ 23 (.tmp 7) (by kernel_rfl) gw (by kernel_rfl) 23 D (0, 0) _ (HK6.out.below b HK6.out.lt) digest_under rfl HDK.out.info) ?_
      refine held_call 2 rfl (by kernel_rfl) (by kernel_rfl) (by kernel_rfl) (Of_any L G D HDK2.out _ (HT6.out.below BW) (by omega) (by omega)) (fun w' h => bel_in BW h) ?_
      intro q hq
      have BQ := bel_in BW hq
      refine held_free 4 (.bool false) rfl (by kernel_rfl) (by kernel_rfl) (by kernel_rfl) (by kernel_rfl) BQ (fun W _ => ex_digneq 23 (.tmp 53) (.tmp 54) (by kernel_rfl) d hd32 D HD0.out (by kernel_rfl) (by kernel_rfl)) ?_
      refine held_end (by kernel_rfl) ?_
      have HE := Lib.hid (And.intro (HT6.out.below BQ) (And.intro (HK6.out.below BQ HK6.out.lt) (HB6.out.trans (BQ.mono HB6.out.size))))
      clear BW BQ hq
      go_wp2_with fail
      go_meet
      exact ⟨rfl, HE.out⟩
    case rest =>
      obtain ⟨rfl, ht7, hk7, hb7⟩ := hcut
      obtain ⟨V, hV⟩ : ∃ V, V = wc := ⟨_, rfl⟩
      rw [← hV] at ht7 hk7 hb7 ⊢
      clear hV
      have HT7 := Lib.hid ht7
      have HK7 := Lib.hid hk7
      have HB7 := Lib.hid hb7
      obtain ⟨B, hB⟩ : ∃ B, B = V.heap.size := ⟨_, rfl⟩
      have HBB := Lib.hid (show gw < B ∧ 1 < B ∧ w.heap.size ≤ B by have := hk7.lt; have := ht7.lt; have := hb7.size; omega)
      have HBE := Lib.hid hB
      clear ht7 hk7 hb7 hB HT6 HK6 HB6 HW6
      go_upto_region 13 with fail
      go_cut [10, 11] (fun x y wx => ∃ gi go : Nat, x = .slice (some ⟨gi, 0, none⟩) 64 64 ∧ y = .slice (some ⟨go, 0, none⟩) 64 64 ∧ gi ≠ go ∧ B ≤ gi ∧ B ≤ go ∧ Blk wx gi 5 (byv (List.replicate 64 0)) ∧ Blk wx go 5 (byv (List.replicate 64 0)) ∧ Below B V wx)
      case first =>
        obtain ⟨ZB, hZB⟩ : ∃ ZB, ZB = byv (List.replicate 64 0) := ⟨_, rfl⟩
        have hmk := fun W => make_any W 64 .i64 (by decide)
        simp only [← hZB] at hmk
        obtain ⟨X0, hX0⟩ : ∃ X0, X0 = V.drew := ⟨_, rfl⟩
        obtain ⟨X1, hX1⟩ : ∃ X1, X1 = X0.alloc (.cells ZB 5) := ⟨_, rfl⟩
        obtain ⟨X2, hX2⟩ : ∃ X2, X2 = X1.alloc (.cells ZB 5) := ⟨_, rfl⟩
        obtain ⟨n0, hn0⟩ : ∃ n0, n0 = X0.heap.size := ⟨_, rfl⟩
        obtain ⟨n1, hn1⟩ : ∃ n1, n1 = X1.heap.size := ⟨_, rfl⟩
        have hm0 := hmk X0
        have hm1 := hmk X1
        rw [← hn0, ← hX1] at hm0
        rw [← hn1, ← hX2] at hm1
        have e01 : n1 = n0 + 1 := by rw [hn1, hX1, World.size_alloc, hn0]
        have e0 : n0 = B := by rw [hn0, hX0]; exact HBE.out.symm
        have k0 : Blk X1 n0 5 ZB := by rw [hX1, hn0]; exact Blk.new X0 _ _
        have k1 : Blk X2 n1 5 ZB := by rw [hX2, hn1]; exact Blk.new X1 _ _
        have k01 : Blk X2 n0 5 ZB := by rw [hX2]; exact k0.alloc _
        have bb : Below B V X2 := by
          rw [hX2, hX1, hX0]
          exact ((((Below.refl B V).drew).alloc (Nat.le_of_eq HBE.out) _).alloc (by rw [World.size_alloc]; have := HBE.out; show B ≤ V.heap.size + 1; omega) _)
        have HA1 := Lib.hid (show ∃ gi go : Nat, Value.slice (some ⟨n0, 0, none⟩) 64 64 = .slice (some ⟨gi, 0, none⟩) 64 64 ∧ Value.slice (some ⟨n1, 0, none⟩) 64 64 = .slice (some ⟨go, 0, none⟩) 64 64 ∧ gi ≠ go ∧ B ≤ gi ∧ B ≤ go ∧ Blk X2 gi 5 (byv (List.replicate 64 0)) ∧ Blk X2 go 5 (byv (List.replicate 64 0)) ∧ Below B V X2 from
          ⟨n0, n1, rfl, rfl, by omega, by omega, by omega, hZB ▸ k01, hZB ▸ k1, bb⟩)
        have HA2 := Lib.hid (show ∃ gi go : Nat, Value.slice (some ⟨n1, 0, none⟩) 64 64 = .slice (some ⟨gi, 0, none⟩) 64 64 ∧ Value.slice (some ⟨n0, 0, none⟩) 64 64 = .slice (some ⟨go, 0, none⟩) 64 64 ∧ gi ≠ go ∧ B ≤ gi ∧ B ≤ go ∧ Blk X2 gi 5 (byv (List.replicate 64 0)) ∧ Blk X2 go 5 (byv (List.replicate 64 0)) ∧ Below B V X2 from
          ⟨n1, n0, rfl, rfl, by omega, by omega, by omega, hZB ▸ k1, hZB ▸ k01, bb⟩)
        clear k0 k1 k01 bb e01 e0 hn0 hn1 hmk hX1 hX2
        refine walk_start 3 (fun _ => True) (by kernel_rfl) (n := 4) rfl ?_
        rw [← hX0]
        clear hX0
        refine walk_two 0 1 (by kernel_rfl) (do_lone (v := .slice (some ⟨n0, 0, none⟩) 64 64) 0 rfl (by kernel_rfl) (ex_make 31 (.const (.int .i64 64)) (.const (.int .i64 64)) (by kernel_rfl) (by kernel_rfl) (by kernel_rfl) (hm0)) trivial ?_) (do_lone (v := .slice (some ⟨n0, 0, none⟩) 64 64) 1 rfl (by kernel_rfl) (ex_make 31 (.const (.int .i64 64)) (.const (.int .i64 64)) (by kernel_rfl) (by kernel_rfl) (by kernel_rfl) (hm0)) trivial ?_)
        · refine walk_free 2 (.slice (some ⟨n0, 0, none⟩) 64 64) rfl (by kernel_rfl) (by kernel_rfl) (by kernel_rfl) (by kernel_rfl) (by kernel_rfl) (by kernel_rfl) trivial (fun _ _ => by kernel_rfl) ?_
          refine walk_one 1 (by kernel_rfl) (do_lone (v := .slice (some ⟨n1, 0, none⟩) 64 64) 1 rfl (by kernel_rfl) (ex_make 31 (.const (.int .i64 64)) (.const (.int .i64 64)) (by kernel_rfl) (by kernel_rfl) (by kernel_rfl) (hm1)) trivial ?_)
          refine walk_one 3 (by kernel_rfl) (do_lone (v := .slice (some ⟨n1, 0, none⟩) 64 64) (w' := X2) 3 rfl (by kernel_rfl) (by kernel_rfl) trivial ?_)
          refine walk_end (by kernel_rfl) ?_
          go_wp2_with fail
          go_meet
          exact HA1.out
        · refine walk_one 0 (by kernel_rfl) (do_lone (v := .slice (some ⟨n1, 0, none⟩) 64 64) 0 rfl (by kernel_rfl) (ex_make 31 (.const (.int .i64 64)) (.const (.int .i64 64)) (by kernel_rfl) (by kernel_rfl) (by kernel_rfl) (hm1)) trivial ?_)
          refine walk_free 2 (.slice (some ⟨n1, 0, none⟩) 64 64) rfl (by kernel_rfl) (by kernel_rfl) (by kernel_rfl) (by kernel_rfl) (by kernel_rfl) (by kernel_rfl) trivial (fun _ _ => by kernel_rfl) ?_
          refine walk_one 3 (by kernel_rfl) (do_lone (v := .slice (some ⟨n0, 0, none⟩) 64 64) (w' := X2) 3 rfl (by kernel_rfl) (by kernel_rfl) trivial ?_)
          refine walk_end (by kernel_rfl) ?_
          go_wp2_with fail
          go_meet
          exact HA2.out
      case rest =>
        obtain ⟨gi, go, rfl, rfl, hne, hgi, hgo, hbi, hbo, hbel⟩ := hcut
        obtain ⟨V2, hV⟩ : ∃ V2, V2 = wc := ⟨_, rfl⟩
        rw [← hV] at hbi hbo hbel ⊢
        clear hV
        obtain ⟨LA, hLA⟩ : ∃ LA, LA = mixd K.data.toList 0x36 := ⟨_, rfl⟩
        obtain ⟨LB, hLB⟩ : ∃ LB, LB = mixd K.data.toList 0x5c := ⟨_, rfl⟩
        have la : LA.length = 64 := by rw [hLA, mixd_length]
        have lb : LB.length = 64 := by rw [hLB, mixd_length]
        have HLA := Lib.hid hLA
        have HLB := Lib.hid hLB
        have HI0 := Lib.hid (show Blk V2 gi 5 (byv (kmix LA 0)) by rw [kmix_start]; exact hbi)
        have HO0 := Lib.hid (show Blk V2 go 5 (byv (kmix LB 0)) by rw [kmix_start]; exact hbo)
        have HT8 := Lib.hid (HT7.out.below (hbel.mono (Nat.le_of_eq HBE.out.symm)))
        have HB2 := Lib.hid hbel
        have hgl := HBB.out
        clear hbi hbo hbel hLA hLB
        go_wp2_with fail
        go_loopw [12] (fun i wr => ∃ k : Nat, k ≤ 64 ∧ i = .int .i64 (k : Int) ∧ Blk wr gi 5 (byv (kmix LA k)) ∧ Blk wr go 5 (byv (kmix LB k)) ∧ Below B V wr) (fun i _ => 64 - (intOf i).toNat)
        case atStart => exact ⟨0, by decide, rfl, HI0.out, HO0.out, HB2.out⟩
        case round =>
          obtain ⟨k, hk, rfl, hbi, hbo, hbl⟩ := hrel
          clear HI0 HO0 HB2
          by_cases hlt : k < 64
          · have HI := Lib.hid hbi
            have HO := Lib.hid hbo
            have HBL := Lib.hid hbl
            have c1 : wr.cell? ⟨gi, k, none⟩ = some (.int .u8 0) := (hbi.cell k).trans (kmix_get LA k la hlt)
            have f1 : wr.frozen? ⟨gi, k, none⟩ = false := hbi.frozen k
            have hbo2 : Blk (wr.setCell ⟨gi, k, none⟩ (.int .u8 54)) go 5 (byv (kmix LB k)) := hbo.same (Below.heap_setCell _ _ _ _ (fun e => hne e.symm))
            have c2 : (wr.setCell ⟨gi, k, none⟩ (.int .u8 54)).cell? ⟨go, k, none⟩ = some (.int .u8 0) := (hbo2.cell k).trans (kmix_get LB k lb hlt)
            have f2 : (wr.setCell ⟨gi, k, none⟩ (.int .u8 54)).frozen? ⟨go, k, none⟩ = false := hbo2.frozen k
            have hga1 : go ≠ gi := fun e => hne e.symm
            obtain ⟨x, hx⟩ : ∃ x, x = K.data.toList.getD k 0 := ⟨_, rfl⟩
            obtain ⟨v1, hv1⟩ : ∃ v1, v1 = (0x36 : UInt8) ^^^ x := ⟨_, rfl⟩
            obtain ⟨v2, hv2⟩ : ∃ v2, v2 = (0x5c : UInt8) ^^^ x := ⟨_, rfl⟩
            have la1 : LA[k]'(by omega) = v1 := by
              have := mixd_get K.data.toList 0x36 k hlt
              rw [← HLA.out, List.getElem?_eq_getElem (by omega), ← hx, UInt8.xor_comm, ← hv1] at this
              exact Option.some.inj this
            have lb1 : LB[k]'(by omega) = v2 := by
              have := mixd_get K.data.toList 0x5c k hlt
              rw [← HLB.out, List.getElem?_eq_getElem (by omega), ← hx, UInt8.xor_comm, ← hv2] at this
              exact Option.some.inj this
            obtain ⟨A0, hA0⟩ : ∃ A0, A0 = kmix LA k := ⟨_, rfl⟩
            obtain ⟨B0, hB0⟩ : ∃ B0, B0 = kmix LB k := ⟨_, rfl⟩
            have HA9 := Lib.hid (show A0.set k v1 = kmix LA (k + 1) by rw [hA0, ← la1]; exact kmix_set LA k la hlt)
            have HB9 := Lib.hid (show B0.set k v2 = kmix LB (k + 1) by rw [hB0, ← lb1]; exact kmix_set LB k lb hlt)
            have ha64 : k < A0.length := by rw [hA0, kmix_length LA k la (by omega)]; exact hlt
            have hb64 : k < B0.length := by rw [hB0, kmix_length LB k lb (by omega)]; exact hlt
            obtain ⟨V3, hV3⟩ : ∃ V3, V3 = (wr.setCell ⟨gi, k, none⟩ (.int .u8 54)).setCell ⟨go, k, none⟩ (.int .u8 92) := ⟨_, rfl⟩
            have q1 : Blk (wr.setCell ⟨gi, k, none⟩ (.int .u8 54)) gi 5 (byv (A0.set k 0x36)) := by
              have := hbi.set_ k (.int .u8 ((0x36 : UInt8).toNat : Int))
              rwa [byv_set, ← hA0] at this
            have q2 : Blk V3 gi 5 (byv (A0.set k 0x36)) := by rw [hV3]; exact q1.same (Below.heap_setCell _ _ _ _ hne)
            have q3 : Blk V3 go 5 (byv (B0.set k 0x5c)) := by
              have := hbo2.set_ k (.int .u8 ((0x5c : UInt8).toNat : Int))
              rw [byv_set, ← hB0] at this
              rw [hV3]; exact this
            have hb3 : Below B V V3 := by rw [hV3]; exact (hbl.setCell (p := ⟨gi, k, none⟩) hgi _).setCell (p := ⟨go, k, none⟩) hgo _
            have HQ2 := Lib.hid q2
            have HQ3 := Lib.hid q3
            have HB3 := Lib.hid hb3
            have HV3 := Lib.hid hV3
            by_cases hks2 : k < K.size
            · have hxk : K.data.toList[k]'(by rw [len_data]; exact hks2) = x := by
                rw [hx, List.getD_eq_getElem?_getD, List.getElem?_eq_getElem (by rw [len_data]; exact hks2)]; rfl
              have ik := byte_at K k hks2
              rw [hxk] at ik
              have x1 := u8_xor_nat (0x36 : UInt8).toNat x.toNat (UInt8.toNat_lt _) x.toNat_lt
              have x2 := u8_xor_nat (0x5c : UInt8).toNat x.toNat (UInt8.toNat_lt _) x.toNat_lt
              rw [← UInt8.toNat_xor, ← hv1] at x1
              rw [← UInt8.toNat_xor, ← hv2] at x2
              have X1 := Lib.hid (show bits .xor .u8 54 (x.toNat : Int) = (v1.toNat : Int) from x1)
              have X2 := Lib.hid (show bits .xor .u8 92 (x.toNat : Int) = (v2.toNat : Int) from x2)
              clear hbi hbo hbl hbo2 q1 q2 q3 hb3 hV3 hx hv1 hv2 la1 lb1 hA0 hB0 x1 x2 hxk
              go_wp2_with fail
              rw [← HV3.out]
              clear HV3 c1 f1 c2 f2
              have ai := fun W => place_at gi k 64 64 hlt (by decide) W
              have ao := fun W => place_at go k 64 64 hlt (by decide) W
              obtain ⟨X, hX⟩ : ∃ X, X = V3.drew := ⟨_, rfl⟩
              have p1 : Blk X gi 5 (byv (A0.set k 0x36)) := by rw [hX]; exact HQ2.out.drew
              have p2 : Blk X go 5 (byv (B0.set k 0x5c)) := by rw [hX]; exact HQ3.out.drew
              have e1 : X.cell? ⟨gi, k, none⟩ = some (.int .u8 54) := by rw [p1.cell k, byv_get _ _ (by simpa using ha64), List.getElem_set_self]; rfl
              have e2 : X.cell? ⟨go, k, none⟩ = some (.int .u8 92) := by rw [p2.cell k, byv_get _ _ (by simpa using hb64), List.getElem_set_self]; rfl
              have st1 := store_u8 X gi k 0x36 v1 e1 (p1.frozen k)
              have o1 : Blk (X.setCell ⟨gi, k, none⟩ (.int .u8 (v1.toNat : Int))) gi 5 (byv (kmix LA (k + 1))) := by
                have := p1.set_ k (.int .u8 (v1.toNat : Int))
                rwa [byv_set, List.set_set, HA9.out] at this
              have o2 : Blk (X.setCell ⟨gi, k, none⟩ (.int .u8 (v1.toNat : Int))) go 5 (byv (B0.set k 0x5c)) := p2.same (Below.heap_setCell _ _ _ _ hga1)
              have st2 := store_u8 (X.setCell ⟨gi, k, none⟩ (.int .u8 (v1.toNat : Int))) go k 0x5c v2 ((o2.cell k).trans ((p2.cell k).symm.trans e2)) (o2.frozen k)
              have HEND := Lib.hid (show Blk ((X.setCell ⟨gi, k, none⟩ (.int .u8 (v1.toNat : Int))).setCell ⟨go, k, none⟩ (.int .u8 (v2.toNat : Int))) gi 5 (byv (kmix LA (k + 1))) ∧ Blk ((X.setCell ⟨gi, k, none⟩ (.int .u8 (v1.toNat : Int))).setCell ⟨go, k, none⟩ (.int .u8 (v2.toNat : Int))) go 5 (byv (kmix LB (k + 1))) ∧ Below B V ((X.setCell ⟨gi, k, none⟩ (.int .u8 (v1.toNat : Int))).setCell ⟨go, k, none⟩ (.int .u8 (v2.toNat : Int))) from
                ⟨o1.same (Below.heap_setCell _ _ _ _ hne), by have := o2.set_ k (.int .u8 (v2.toNat : Int)); rwa [byv_set, List.set_set, HB9.out] at this,
                 by rw [hX]; exact (HB3.out.drew.setCell (p := ⟨gi, k, none⟩) hgi _).setCell (p := ⟨go, k, none⟩) hgo _⟩)
              clear p1 p2 o1 o2
              refine walk_start 23 (fun _ => True) (by kernel_rfl) (n := 24) rfl ?_
              rw [← hX]
              clear hX
              refine walk_free 0 (.slice (some ⟨gi, 0, none⟩) 64 64) rfl (by kernel_rfl) (by kernel_rfl) (by kernel_rfl) (by kernel_rfl) (by kernel_rfl) (by kernel_rfl) trivial (fun _ _ => by kernel_rfl) ?_
              refine walk_free 1 (.int .i64 (k : Int)) rfl (by kernel_rfl) (by kernel_rfl) (by kernel_rfl) (by kernel_rfl) (by kernel_rfl) (by kernel_rfl) trivial (fun _ _ => by kernel_rfl) ?_
              refine walk_free 2 (.slice (some ⟨go, 0, none⟩) 64 64) rfl (by kernel_rfl) (by kernel_rfl) (by kernel_rfl) (by kernel_rfl) (by kernel_rfl) (by kernel_rfl) trivial (fun _ _ => by kernel_rfl) ?_
              refine walk_free 3 (.int .i64 (k : Int)) rfl (by kernel_rfl) (by kernel_rfl) (by kernel_rfl) (by kernel_rfl) (by kernel_rfl) (by kernel_rfl) trivial (fun _ _ => by kernel_rfl) ?_
              refine walk_free 4 (.slice (some ⟨gi, 0, none⟩) 64 64) rfl (by kernel_rfl) (by kernel_rfl) (by kernel_rfl) (by kernel_rfl) (by kernel_rfl) (by kernel_rfl) trivial (fun _ _ => by kernel_rfl) ?_
              refine walk_free 5 (.int .i64 (k : Int)) rfl (by kernel_rfl) (by kernel_rfl) (by kernel_rfl) (by kernel_rfl) (by kernel_rfl) (by kernel_rfl) trivial (fun _ _ => by kernel_rfl) ?_
              refine walk_free 6 (.pointer (some ⟨gi, k, none⟩)) rfl (by kernel_rfl) (by kernel_rfl) (by kernel_rfl) (by kernel_rfl) (by kernel_rfl) (by kernel_rfl) trivial (fun W _ => by refine ex_index rfl ?_ ?_ (ai W) <;> kernel_rfl) ?_
              refine walk_free 8 (.string K) rfl (by kernel_rfl) (by kernel_rfl) (by kernel_rfl) (by kernel_rfl) (by kernel_rfl) (by kernel_rfl) trivial (fun _ _ => by kernel_rfl) ?_
              refine walk_free 9 (.int .i64 (k : Int)) rfl (by kernel_rfl) (by kernel_rfl) (by kernel_rfl) (by kernel_rfl) (by kernel_rfl) (by kernel_rfl) trivial (fun _ _ => by kernel_rfl) ?_
              refine walk_free 10 (.int .u8 (x.toNat : Int)) rfl (by kernel_rfl) (by kernel_rfl) (by kernel_rfl) (by kernel_rfl) (by kernel_rfl) (by kernel_rfl) trivial (fun W _ => by refine exec_index rfl ?_ ?_ (ik W) <;> kernel_rfl) ?_
              refine walk_free 12 (.slice (some ⟨go, 0, none⟩) 64 64) rfl (by kernel_rfl) (by kernel_rfl) (by kernel_rfl) (by kernel_rfl) (by kernel_rfl) (by kernel_rfl) trivial (fun _ _ => by kernel_rfl) ?_
              refine walk_free 13 (.int .i64 (k : Int)) rfl (by kernel_rfl) (by kernel_rfl) (by kernel_rfl) (by kernel_rfl) (by kernel_rfl) (by kernel_rfl) trivial (fun _ _ => by kernel_rfl) ?_
              refine walk_free 14 (.pointer (some ⟨go, k, none⟩)) rfl (by kernel_rfl) (by kernel_rfl) (by kernel_rfl) (by kernel_rfl) (by kernel_rfl) (by kernel_rfl) trivial (fun W _ => by refine ex_index rfl ?_ ?_ (ao W) <;> kernel_rfl) ?_
              refine walk_free 16 (.string K) rfl (by kernel_rfl) (by kernel_rfl) (by kernel_rfl) (by kernel_rfl) (by kernel_rfl) (by kernel_rfl) trivial (fun _ _ => by kernel_rfl) ?_
              refine walk_free 17 (.int .i64 (k : Int)) rfl (by kernel_rfl) (by kernel_rfl) (by kernel_rfl) (by kernel_rfl) (by kernel_rfl) (by kernel_rfl) trivial (fun _ _ => by kernel_rfl) ?_
              refine walk_free 18 (.int .u8 (x.toNat : Int)) rfl (by kernel_rfl) (by kernel_rfl) (by kernel_rfl) (by kernel_rfl) (by kernel_rfl) (by kernel_rfl) trivial (fun W _ => by refine exec_index rfl ?_ ?_ (ik W) <;> kernel_rfl) ?_
              refine walk_two 7 15 (by kernel_rfl) (do_lone (v := .int .u8 (54 : Int)) (w' := X) 7 rfl (by kernel_rfl) (ex_load 5 (.tmp 78) (by kernel_rfl) ⟨gi, k, none⟩ (by kernel_rfl) (by kernel_rfl) e1) trivial ?_) (do_lone (v := .int .u8 (92 : Int)) (w' := X) 15 rfl (by kernel_rfl) (ex_load 5 (.tmp 86) (by kernel_rfl) ⟨go, k, none⟩ (by kernel_rfl) (by kernel_rfl) e2) trivial ?_)
              · refine walk_free 11 (.int .u8 (bits .xor .u8 54 (x.toNat : Int))) rfl (by kernel_rfl) (by kernel_rfl) (by kernel_rfl) (by kernel_rfl) (by kernel_rfl) (by kernel_rfl) trivial (fun _ _ => by kernel_rfl) ?_
                rw [X1.out]
                refine walk_one 15 (by kernel_rfl) (do_lone (v := .int .u8 (92 : Int)) (w' := X) 15 rfl (by kernel_rfl) (ex_load 5 (.tmp 86) (by kernel_rfl) ⟨go, k, none⟩ (by kernel_rfl) (by kernel_rfl) e2) trivial ?_)
                refine walk_free 19 (.int .u8 (bits .xor .u8 92 (x.toNat : Int))) rfl (by kernel_rfl) (by kernel_rfl) (by kernel_rfl) (by kernel_rfl) (by kernel_rfl) (by kernel_rfl) trivial (fun _ _ => by kernel_rfl) ?_
                rw [X2.out]
                refine walk_free 20 (.pointer (some ⟨gi, k, none⟩)) rfl (by kernel_rfl) (by kernel_rfl) (by kernel_rfl) (by kernel_rfl) (by kernel_rfl) (by kernel_rfl) trivial (fun W _ => by refine ex_index rfl ?_ ?_ (ai W) <;> kernel_rfl) ?_
                refine walk_one 21 (by kernel_rfl) (do_skip 21 rfl (by kernel_rfl) (ex_store_cell 5 (.tmp 92) (.tmp 83) (by kernel_rfl) ⟨gi, k, none⟩ (.int .u8 (v1.toNat : Int)) (by kernel_rfl) (by kernel_rfl) st1) trivial ?_)
                refine walk_free 22 (.pointer (some ⟨go, k, none⟩)) rfl (by kernel_rfl) (by kernel_rfl) (by kernel_rfl) (by kernel_rfl) (by kernel_rfl) (by kernel_rfl) trivial (fun W _ => by refine ex_index rfl ?_ ?_ (ao W) <;> kernel_rfl) ?_
                refine walk_one 23 (by kernel_rfl) (do_last 23 rfl (by kernel_rfl) (ex_store_cell 5 (.tmp 93) (.tmp 91) (by kernel_rfl) ⟨go, k, none⟩ (.int .u8 (v2.toNat : Int)) (by kernel_rfl) (by kernel_rfl) st2) (by kernel_rfl) ?_)
                refine walk_end_at ⟨#[.string K, .string G, .int .u8 a2, undef, undef, undef, u6, .pointer (some ⟨gw, 0, none⟩), u8, .string L, .slice (some ⟨gi, 0, none⟩) 64 64, .slice (some ⟨go, 0, none⟩) 64 64, .int .i64 (k : Int), undef, u14, u15, u16, u17, u18, u19, u20, u21, u22, u23, u24, u25, u26, u27, u28, u29, u30, u31, u32, u33, u34, u35, u36, u37, u38, u39, u40, u41, u42, u43, u44, u45, u46, u47, u48, u49, u50, u51, u52, u53, u54, u55, u56, u57, .int .i64 (k : Int), .bool (decide ((k : Int) < 64)), u60, u61, .slice (some ⟨gi, 0, none⟩) 64 64, .int .i64 (k : Int), .slice (some ⟨go, 0, none⟩) 64 64, .int .i64 (k : Int), .pointer (some ⟨gi, k, none⟩), .pointer (some ⟨go, k, none⟩), .int .i64 (k : Int), .string K, .int .i64 (K.size : Int), .bool true, .slice (some ⟨gi, 0, none⟩) 64 64, .int .i64 (k : Int), .slice (some ⟨go, 0, none⟩) 64 64, .int .i64 (k : Int), .slice (some ⟨gi, 0, none⟩) 64 64, .int .i64 (k : Int), .pointer (some ⟨gi, k, none⟩), .int .u8 54, .string K, .int .i64 (k : Int), .int .u8 (x.toNat : Int), .int .u8 (v1.toNat : Int), .slice (some ⟨go, 0, none⟩) 64 64, .int .i64 (k : Int), .pointer (some ⟨go, k, none⟩), .int .u8 92, .string K, .int .i64 (k : Int), .int .u8 (x.toNat : Int), .int .u8 (v2.toNat : Int), .pointer (some ⟨gi, k, none⟩), .pointer (some ⟨go, k, none⟩), u94, u95, u96, u97, u98, u99, u100, u101, u102, u103, u104, u105, u106], []⟩ (by kernel_rfl) (by kernel_rfl) ?_
                clear ai ao st1 st2 e1 e2 ik X1 X2
                go_wp2_with fail
                exact ⟨⟨k + 1, by omega, by rw [Int.natCast_add]; rfl, HEND.out.1, HEND.out.2.1, HEND.out.2.2⟩, by simp [intOf]; omega⟩
              · refine walk_free 19 (.int .u8 (bits .xor .u8 92 (x.toNat : Int))) rfl (by kernel_rfl) (by kernel_rfl) (by kernel_rfl) (by kernel_rfl) (by kernel_rfl) (by kernel_rfl) trivial (fun _ _ => by kernel_rfl) ?_
                rw [X2.out]
                refine walk_one 7 (by kernel_rfl) (do_lone (v := .int .u8 (54 : Int)) (w' := X) 7 rfl (by kernel_rfl) (ex_load 5 (.tmp 78) (by kernel_rfl) ⟨gi, k, none⟩ (by kernel_rfl) (by kernel_rfl) e1) trivial ?_)
                refine walk_free 11 (.int .u8 (bits .xor .u8 54 (x.toNat : Int))) rfl (by kernel_rfl) (by kernel_rfl) (by kernel_rfl) (by kernel_rfl) (by kernel_rfl) (by kernel_rfl) trivial (fun _ _ => by kernel_rfl) ?_
                rw [X1.out]
                refine walk_free 20 (.pointer (some ⟨gi, k, none⟩)) rfl (by kernel_rfl) (by kernel_rfl) (by kernel_rfl) (by kernel_rfl) (by kernel_rfl) (by kernel_rfl) trivial (fun W _ => by refine ex_index rfl ?_ ?_ (ai W) <;> kernel_rfl) ?_
                refine walk_one 21 (by kernel_rfl) (do_skip 21 rfl (by kernel_rfl) (ex_store_cell 5 (.tmp 92) (.tmp 83) (by kernel_rfl) ⟨gi, k, none⟩ (.int .u8 (v1.toNat : Int)) (by kernel_rfl) (by kernel_rfl) st1) trivial ?_)
                refine walk_free 22 (.pointer (some ⟨go, k, none⟩)) rfl (by kernel_rfl) (by kernel_rfl) (by kernel_rfl) (by kernel_rfl) (by kernel_rfl) (by kernel_rfl) trivial (fun W _ => by refine ex_index rfl ?_ ?_ (ao W) <;> kernel_rfl) ?_
                refine walk_one 23 (by kernel_rfl) (do_last 23 rfl (by kernel_rfl) (ex_store_cell 5 (.tmp 93) (.tmp 91) (by kernel_rfl) ⟨go, k, none⟩ (.int .u8 (v2.toNat : Int)) (by kernel_rfl) (by kernel_rfl) st2) (by kernel_rfl) ?_)
                refine walk_end_at ⟨#[.string K, .string G, .int .u8 a2, undef, undef, undef, u6, .pointer (some ⟨gw, 0, none⟩), u8, .string L, .slice (some ⟨gi, 0, none⟩) 64 64, .slice (some ⟨go, 0, none⟩) 64 64, .int .i64 (k : Int), undef, u14, u15, u16, u17, u18, u19, u20, u21, u22, u23, u24, u25, u26, u27, u28, u29, u30, u31, u32, u33, u34, u35, u36, u37, u38, u39, u40, u41, u42, u43, u44, u45, u46, u47, u48, u49, u50, u51, u52, u53, u54, u55, u56, u57, .int .i64 (k : Int), .bool (decide ((k : Int) < 64)), u60, u61, .slice (some ⟨gi, 0, none⟩) 64 64, .int .i64 (k : Int), .slice (some ⟨go, 0, none⟩) 64 64, .int .i64 (k : Int), .pointer (some ⟨gi, k, none⟩), .pointer (some ⟨go, k, none⟩), .int .i64 (k : Int), .string K, .int .i64 (K.size : Int), .bool true, .slice (some ⟨gi, 0, none⟩) 64 64, .int .i64 (k : Int), .slice (some ⟨go, 0, none⟩) 64 64, .int .i64 (k : Int), .slice (some ⟨gi, 0, none⟩) 64 64, .int .i64 (k : Int), .pointer (some ⟨gi, k, none⟩), .int .u8 54, .string K, .int .i64 (k : Int), .int .u8 (x.toNat : Int), .int .u8 (v1.toNat : Int), .slice (some ⟨go, 0, none⟩) 64 64, .int .i64 (k : Int), .pointer (some ⟨go, k, none⟩), .int .u8 92, .string K, .int .i64 (k : Int), .int .u8 (x.toNat : Int), .int .u8 (v2.toNat : Int), .pointer (some ⟨gi, k, none⟩), .pointer (some ⟨go, k, none⟩), u94, u95, u96, u97, u98, u99, u100, u101, u102, u103, u104, u105, u106], []⟩ (by kernel_rfl) (by kernel_rfl) ?_
                clear ai ao st1 st2 e1 e2 ik X1 X2
                go_wp2_with fail
                exact ⟨⟨k + 1, by omega, by rw [Int.natCast_add]; rfl, HEND.out.1, HEND.out.2.1, HEND.out.2.2⟩, by simp [intOf]; omega⟩
            · have hx0 : x = 0 := by rw [hx, List.getD_eq_getElem?_getD, List.getElem?_eq_none (by rw [len_data]; omega)]; rfl
              have w1 : v1 = 0x36 := by rw [hv1, hx0]; rfl
              have w2 : v2 = 0x5c := by rw [hv2, hx0]; rfl
              have HEND := Lib.hid (show Blk V3 gi 5 (byv (kmix LA (k + 1))) ∧ Blk V3 go 5 (byv (kmix LB (k + 1))) ∧ Below B V V3 from
                ⟨by rw [← HA9.out, w1]; exact q2, by rw [← HB9.out, w2]; exact q3, hb3⟩)
              clear hbi hbo hbl hbo2 q1 q2 q3 hb3 hV3 hx hv1 hv2 la1 lb1 hA0 hB0 w1 w2 hx0 HQ2 HQ3 HB3
              go_wp2_with fail
              rw [← HV3.out]
              exact ⟨⟨k + 1, by omega, by rw [Int.natCast_add]; rfl, HEND.out.1, HEND.out.2.1, HEND.out.2.2⟩, by simp [intOf]; omega⟩
          · obtain rfl : k = 64 := by omega
            rw [kmix_end LA la] at hbi
            rw [kmix_end LB lb] at hbo
            have HT9 := Lib.hid (HT7.out.below (hbl.mono (Nat.le_of_eq HBE.out.symm)))
            have HK9 := Lib.hid (HK7.out.below hbl hgl.1)
            have HB9 := Lib.hid (HB7.out.trans (hbl.mono hgl.2.2))
            have HBO := Lib.hid hbo
            obtain ⟨M1, hM1⟩ : ∃ M, M = txt LA := ⟨_, rfl⟩
            obtain ⟨M2, hM2⟩ : ∃ M, M = txt LB := ⟨_, rfl⟩
            have hcv := bytes_txt wr gi 64 64 LA hbi la.symm
            rw [← hM1] at hcv
            have m1s : M1.size = 64 := by rw [hM1]; simp [ByteArray.size, la]
            have m2s : M2.size = 64 := by rw [hM2]; simp [ByteArray.size, lb]
            obtain ⟨L1, hL1⟩ : ∃ L, L = M1 ++ G := ⟨_, rfl⟩
            have l1s : L1.size ≤ 100000 := by rw [hL1, ByteArray.size_append]; omega
            have L1d : L1.data.toList = LA ++ G.data.toList := by rw [hL1, hM1, ByteArray.data_append]; simp
            obtain ⟨I, hI⟩ : ∃ I, I = digest L1.data.toList := ⟨_, rfl⟩
            have hil : I.length = 32 := by rw [hI, digest_length]
            obtain ⟨A, hA⟩ : ∃ A, A = byv I := ⟨_, rfl⟩
            have HAK := Lib.hid (show DOk A by rw [hA]; exact dok _ hil)
            obtain ⟨T, hT⟩ : ∃ T, T = txt I := ⟨_, rfl⟩
            have ts : T.size = 32 := by rw [hT]; simpa [ByteArray.size] using hil
            obtain ⟨L2, hL2⟩ : ∃ L, L = M2 ++ T := ⟨_, rfl⟩
            have l2s : L2.size ≤ 100000 := by rw [hL2, ByteArray.size_append]; omega
            have L2d : L2.data.toList = LB ++ I := by rw [hL2, hM2, hT, ByteArray.data_append]; simp
            have HDD := Lib.hid (show D = byv (digest L2.data.toList) by rw [HD0.out, HDK3.out, L2d, hI, L1d, HLA.out, HLB.out])
            have HI := Lib.hid (show A = byv (digest L1.data.toList) by rw [hA, hI])
            have HA := Lib.hid hA
            have HT := Lib.hid hT
            have HL2 := Lib.hid hL2
            have HM2 := Lib.hid hM2
            have hcat := fun W => run_string_add (P := Tryd.prog) W M1 G (by omega) (by omega)
            have eL := hL1.symm
            clear hbi hbo hbl hlt hM1 hM2 hL1 hI hA hT hL2 L1d L2d
            go_wp2_with fail
            clear eL hcat hcv
            refine (SumL L1 _ A wr rfl HI.out HT9.out (by rw [len_data]; omega)).mono ?_
            rintro e Y1 ⟨rfl, b1⟩
            have n1 := Blk.new Y1 23 z32
            obtain ⟨Y2, hY2⟩ : ∃ Y2, Y2 = (Y1.alloc (.cells z32 23)).setRow Y1.heap.size A := ⟨_, rfl⟩
            have b2 : Below Y1.heap.size Y1 Y2 := by rw [hY2]; exact below_setRow ((Below.refl _ Y1).alloc (Nat.le_refl _) _) (Nat.le_refl _) _
            have b12 : Below wr.heap.size wr Y2 := b1.trans (b2.mono b1.size)
            have HTY := Lib.hid (HT9.out.below b12)
            have HKY := Lib.hid (HK9.out.below b12 HK9.out.lt)
            have HOY := Lib.hid (HBO.out.below b12 HBO.out.lt)
            have HBY := Lib.hid (HB9.out.trans (b12.mono HB9.out.size))
            have HAY := Lib.hid (show Blk Y2 Y1.heap.size 23 A by rw [hY2]; exact setRow_heap _ _ _ _ _ _ n1)
            have HN1 := Lib.hid n1
            have HAO := Lib.hid (show z32.size = A.size by rw [HZK.out.size, HAK.out.size])
            have HY2 := Lib.hid hY2
            obtain ⟨ga, hga⟩ : ∃ ga, ga = Y1.heap.size := ⟨_, rfl⟩
            rw [← hga] at HAY
            have HGA := Lib.hid hga
            clear b1 n1 hY2 b2 b12 hga HT9 HK9 HB9 HBO
            go_wp2_with (refine wpList_store_row rfl 23 (.tmp 13) (.tmp 98) rfl Y1.heap.size A rfl rfl 23 z32 HN1.out HAK.out.info HAO.out HAK.out.one ?_)
            rw [← HY2.out, ← HGA.out]
            have hsl := fun W => slice_all W ga
            have hcv2 : ∀ W, Below Y2.heap.size Y2 W → (convert 31 9 (.slice (some ⟨ga, 0, none⟩) 32 32)).run Tryd.prog W = .ok (.string T) W := fun W b => by
              have := conv_front W ga 23 I 32 32 (by rw [← HA.out]; exact HAY.out.below b HAY.out.lt) (by omega)
              rwa [List.take_of_length_le (by omega), ← HT.out] at this
            have hcv3 : ∀ W, Below Y2.heap.size Y2 W → (convert 31 9 (.slice (some ⟨go, 0, none⟩) 64 64)).run Tryd.prog W = .ok (.string M2) W := fun W b => by
              have := bytes_txt W go 64 64 LB (HOY.out.below b HOY.out.lt) lb.symm
              rwa [← HM2.out] at this
            have TS := fun W (b : Below Y2.heap.size Y2 W) => SumL L2 _ D W rfl HDD.out (HTY.out.below b) (by rw [len_data]; omega)
            have BW : Below Y2.heap.size Y2 Y2.drew := (Below.refl _ Y2).drew
            refine held_start (fun W => Below Y2.heap.size Y2 W) (by kernel_rfl) (n := 9) rfl ?_
            obtain ⟨W9, hW9⟩ : ∃ W9, W9 = Y2.drew := ⟨_, rfl⟩
            rw [← hW9] at BW ⊢
            clear hW9
            refine held_free 0 (.slice (some ⟨go, 0, none⟩) 64 64) rfl (by kernel_rfl) (by kernel_rfl) (by kernel_rfl) (by kernel_rfl) BW (fun _ _ => by kernel_rfl) ?_
            refine held_free 1 (.string M2) rfl (by kernel_rfl) (by kernel_rfl) (by kernel_rfl) (by kernel_rfl) BW (fun W b => ex_convert 31 9 (.tmp 99) (by kernel_rfl) (by kernel_rfl) (hcv3 W b)) ?_
            refine held_free 2 (.slice (some ⟨ga, 0, none⟩) 32 32) rfl (by kernel_rfl) (by kernel_rfl) (by kernel_rfl) (by kernel_rfl) BW (fun W _ => ex_slice0 23 (.tmp 13) (by kernel_rfl) (by kernel_rfl) (hsl W)) ?_
            refine held_free 3 (.string T) rfl (by kernel_rfl) (by kernel_rfl) (by kernel_rfl) (by kernel_rfl) BW (fun W b => ex_convert 31 9 (.tmp 101) (by kernel_rfl) (by kernel_rfl) (hcv2 W b)) ?_
            refine held_free 4 (.string L2) rfl (by kernel_rfl) (by kernel_rfl) (by kernel_rfl) (by kernel_rfl) BW (fun W _ => ex_strcat 9 9 (.tmp 100) (.tmp 102) (by kernel_rfl) M2 T L2 (by kernel_rfl) (by kernel_rfl) (by omega) (by omega) HL2.out) ?_
            refine held_free 6 (.agg D) rfl (by kernel_rfl) (by kernel_rfl) (by kernel_rfl) (by kernel_rfl) BW (fun W b => exec_row_ 23 (.tmp 7) (by kernel_rfl) gw (by kernel_rfl) 23 D (0, 0) _ (HKY.out.below b HKY.out.lt) digest_under rfl HDK.out.info) ?_
            refine held_call 5 rfl (by kernel_rfl) (by kernel_rfl) (by kernel_rfl) (TS _ BW) (fun w' h => bel_in BW h) ?_
            intro q hq
            have BQ := bel_in BW hq
            refine held_free 7 (.bool true) rfl (by kernel_rfl) (by kernel_rfl) (by kernel_rfl) (by kernel_rfl) BQ (fun W _ => ex_digeq 23 (.tmp 104) (.tmp 105) (by kernel_rfl) d hd32 D HD0.out (by kernel_rfl) (by kernel_rfl)) ?_
            refine held_free 8 (.bool true) rfl (by kernel_rfl) (by kernel_rfl) (by kernel_rfl) (by kernel_rfl) BQ (fun _ _ => by kernel_rfl) ?_
            have HE := Lib.hid (HBY.out.trans (BQ.mono HBY.out.size))
            clear BQ BW TS hcv2 hcv3 hsl hq
            refine held_end (by kernel_rfl) ?_
            go_wp2_with fail
            go_ret
            exact ⟨by kernel_rfl, HE.out⟩

set_option maxRecDepth 100000 in
theorem lifted (os : Os) (started : os.Started) (H : Type) (enc : TypeId × Value → H) :
    ReturnsInHanded {} Tryd.checked os 5 .any (fun w args => (Rows.hmacKeysSpec.pre enc Tryd.prog Tryd.f5 [] false w args ∧ laidMetH Tryd.prog laid1 w) ∧ sizedMet enc Tryd.prog Tryd.f5 (OpenSpec.ofChange Rows.hmacKeysSpec) false w args)
      (Rows.hmacKeysSpec.post enc Tryd.prog Tryd.f5 false true false false) := by
  refine returnsInHanded_of_change_and (C := Tryd.checked) (X := fun w _ => laidMetH Tryd.prog laid1 w) (fun _ _ _ hh h => h.of_heap hh) own started (by kernel_rfl) Tryd.func5
    (ChangeSpec.witness_shaped (enc := enc) (C := Tryd.checked) (os := os) (X := fun w _ => laidMetH Tryd.prog laid1 w) false (World.doorLaid Tryd.prog 400 os) #[.string ByteArray.empty, .string ByteArray.empty, .int .u8 0] 8 rfl (World.shaped_of_RefB (by kernel_rfl) (by kernel_rfl)) (by kernel_rfl) (by kernel_rfl) (by kernel_rfl) (door_met os _)) ?_
  intro W base args ds gs before hval0 hW hcnd hsz0 hL _
  have hsz : (DataW.weightsEach Tryd.prog (Tryd.f5.params.toList ++ Rows.hmacKeysSpec.plain.varTypes Tryd.prog) (ds ++ gs)).all (· ≤ reachBytes) = true := hsz0
  have ht := table_of hL
  have hval : ∀ (j : Nat) t v, Tryd.f5.params[j]? = some t → args[j]? = some v → Value.okWide Tryd.prog W .any base t v := hval0
  have hW' := hW
  obtain ⟨p, q, hA0, hV, rfl, hfz, hnd⟩ := hW
  have hA : DataW.TrodAll enc Tryd.prog W 0 (fun _ => true) true Tryd.f5.params.toList args.toList ds p := hA0
  rw [Tryd.params5] at hA hval hsz
  obtain ⟨v0, vs0, d0, ds0, p0, q0, hargs, rfl, rfl, h0, r0⟩ := trodAll_cons hA
  obtain ⟨v1, vs1, d1, ds1, p1, q1, rfl, rfl, rfl, h1, r1⟩ := trodAll_cons r0
  obtain ⟨v2, vs2, d2, ds2, p2, q2, rfl, rfl, rfl, h2, r2⟩ := trodAll_cons r1
  obtain ⟨rfl, rfl, rfl⟩ := trodAll_nil r2
  obtain rfl : args = #[v0, v1, v2] := by cases args; simp_all
  obtain ⟨rfl, rfl⟩ := trodVars_none hV
  obtain ⟨a0, rfl, rfl, rfl, w0⟩ := Go.ChangeMaps.open_string Tryd.underlying9 (hval 0 9 v0 rfl rfl) h0
  obtain ⟨a1, rfl, rfl, rfl, w1⟩ := Go.ChangeMaps.open_string Tryd.underlying9 (hval 1 9 v1 rfl rfl) h1
  obtain ⟨a2, rfl, rfl, rfl, w2⟩ := open_int Tryd.underlying5 (hval 2 5 v2 rfl rfl) h2
  have z0 : a0.size ≤ 140737488351232 := by have := sized_string hsz (j := 0) (t := 9) rfl rfl; simpa [reachBytes] using this
  have z1 : a1.size ≤ 140737488351232 := by have := sized_string hsz (j := 1) (t := 9) rfl rfl; simpa [reachBytes] using this
  clear hA0 hval0
  simp only [List.append_nil] at hW'
  refine (walk a0 z0 a1 z1 a2 (bounds_u8 w2) W ht).mono fun e W' ⟨he, bel⟩ => ?_
  subst he
  exact ⟨_, rfl, _, _, _, [], _, [], hW', trodAll_mk1 (shut_bool Tryd.underlying4 _), (trodAll_cons_mk (Go.ChangeMaps.shut_string Tryd.underlying9 w0) (trodAll_cons_mk (Go.ChangeMaps.shut_string Tryd.underlying9 w1) (trodAll_cons_mk (shut_int Tryd.underlying5 w2) trodAll_mk0))), rfl, bel.frame _, fun h => by cases h⟩

theorem over : Rows.HmacKeysSaid :=
  OpenClaim.holds_of_wide 5 Tryd.f5 rfl rfl rfl rfl rfl rfl rfl ⟨rfl, rfl, rfl, rfl, rfl⟩ rfl rfl rfl rfl rfl (by kernel_rfl) Tryd.func5 (by kernel_rfl)
    (of_decide_eq_true (by kernel_rfl)) (by unfold Func.isWrapper; first | (rw [if_pos (by decide +kernel)]; kernel_rfl) | (rw [if_neg (by decide +kernel)]; exact ⟨rfl, rfl⟩))
    (fun os started H enc _ => lifted os started H enc)

theorem proved : Rows.HmacKeysCardSaid :=
  Claim7.holds_tied_plain_at .later [] [.data, .data] true _ false
    over (fun _ h => by cases h) (by kernel_rfl) (fun _ h => by cases h) hmacKeys_row_tie rfl ⟨rfl, rfl⟩ (by kernel_rfl) rfl
    (fun f fn hf hfn => by
      obtain rfl : f = 5 := Option.some.inj ((show Tryd.prog.funcNamed "plait/plaitlaw07.HmacKeys" = some 5 by kernel_rfl).symm.trans hf) |>.symm
      obtain rfl : fn = Tryd.f5 := (Option.some.inj (Tryd.func5.symm.trans hfn)).symm
      exact ⟨by kernel_rfl, fun j t ht => by
        rw [Tryd.params5] at ht
        have hm : t ∈ ([9, 9, 5] : List TypeId) := by simpa using Array.mem_of_getElem? ht
        have hall : (([9, 9, 5] : List TypeId).all fun u => !Tryd.prog.wantsStandIn u) = true := by kernel_rfl
        exact (show Tryd.prog.wantsStandIn t = false by simpa using List.all_eq_true.1 hall t hm)⟩)
    (by kernel_rfl)
#print axioms proved
end Go.Proofs.YtaeedicihildoaaDoor.hmacKeys
