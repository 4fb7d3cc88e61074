/-
  The document's own code of a text under a key (plaitref07.mixed, Of), by their walks.
-/
import Derived.Test.YtcbakfnpbhgjoaaDoorHmacOf
import Derived.Test.YtcbakfnpbhgjoaaDoorHexs
import Derived.Test.YtcbakfnpbhgjoaaDoorTextOps
namespace Go.Proofs.YtcbakfnpbhgjoaaDoor
open Go.ChangeShapes Go.WideShapes Go.ChangeAt Go.RowKit
set_option linter.unusedVariables false

theorem refSumL (s : ByteArray) (D : Array Value) (hD : D = byv (digest s.data.toList)) (hl : s.size ≤ 100000) (w : World) :
    Calls Tryd.prog 37 #[.string s] w fun e w' => e = .returned (.agg D) ∧ Below w.heap.size w w' := by subst hD; exact Sum_ref s hl w

set_option maxRecDepth 100000 in
set_option maxHeartbeats 1000000 in
theorem mixed_any (key : ByteArray) (by_ : UInt8) (hz : key.size ≤ 100000) (w : World) :
    Calls Tryd.prog 63 #[.string key, .int .u8 (by_.toNat : Int)] w fun e w' => e = .returned (.string (txt (mixd (kb key.data.toList) by_))) ∧ Below w.heap.size w w' := by
  obtain ⟨z32, hz32⟩ : ∃ z32, z32 = byv (List.replicate 32 0) := ⟨_, rfl⟩
  have hdz := digest_zero
  rw [← hz32] at hdz
  have HZK := Lib.hid (show DOk z32 by rw [hz32]; exact dok_zero)
  clear hz32
  go_enter Tryd.func63, Tryd.ntmps63
  go_upto_if 11 with fail
  go_cut [0] (fun s wx => ∃ K : ByteArray, s = .string K ∧ K.data.toList = kb key.data.toList ∧ Below w.heap.size w wx)
  case first =>
    by_cases h64 : 64 < key.size
    · have h64' : (key.size : Int) > 64 := by omega
      obtain ⟨d, hd⟩ : ∃ d, d = digest key.data.toList := ⟨_, rfl⟩
      have hd32 : d.length = 32 := by rw [hd, digest_length]
      obtain ⟨D, hD⟩ : ∃ D, D = byv d := ⟨_, rfl⟩
      have HDK := Lib.hid (show DOk D by rw [hD]; exact dok _ hd32)
      have HD := Lib.hid hD
      have HDV := Lib.hid (show D = byv (digest key.data.toList) by rw [hD, hd])
      have HKB := Lib.hid (show kb key.data.toList = d by unfold kb; rw [if_pos (by rw [len_data]; exact h64), hd])
      clear hd hD
      go_wp2_with fail
      refine (refSumL key D HDV.out hz w).mono ?_
      rintro e W1 ⟨rfl, b1⟩
      have n0 := Blk.new W1 32 z32
      obtain ⟨W2, hW2⟩ : ∃ W2, W2 = (W1.alloc (.cells z32 32)).setRow W1.heap.size D := ⟨_, rfl⟩
      have hb : Blk W2 W1.heap.size 32 D := by rw [hW2]; exact setRow_heap _ _ _ _ _ _ n0
      have HB2 := Lib.hid (show Below w.heap.size w W2 by rw [hW2]; exact b1.trans ((below_setRow ((Below.refl _ W1).alloc (Nat.le_refl _) _) (Nat.le_refl _) _).mono b1.size))
      have hsl := fun W => slice_all W W1.heap.size
      have hcv := conv_front W2 W1.heap.size 32 d 32 32 (by rw [← HD.out]; exact hb) (by omega)
      rw [List.take_of_length_le (by omega)] at hcv
      obtain ⟨T, hT⟩ : ∃ T, T = txt d := ⟨_, rfl⟩
      have HTD := Lib.hid (show T.data.toList = kb key.data.toList by rw [hT, HKB.out])
      rw [← hT] at hcv
      have HN0 := Lib.hid n0
      have HDO := Lib.hid (show z32.size = D.size by rw [HZK.out.size, HDK.out.size])
      have HW2 := Lib.hid hW2
      obtain ⟨g, hg⟩ : ∃ g, g = W1.heap.size := ⟨_, rfl⟩
      rw [← hg] at hsl hcv
      have HG := Lib.hid hg
      clear n0 hW2 hb b1 hT hg
      go_wp2_with (refine wpList_store_row rfl 32 (.tmp 5) (.tmp 13) rfl W1.heap.size D rfl rfl 32 z32 HN0.out HDK.out.info HDO.out HDK.out.one ?_)
      rw [← HW2.out, ← HG.out]
      clear HW2 HG
      go_wp2_with fail
      rw [hcv]
      go_wp2_with fail
      go_meet
      exact ⟨_, rfl, HTD.out, HB2.out⟩
    · have h64' : ¬ ((key.size : Int) > 64) := by omega
      go_wp2_with fail
      go_meet
      exact ⟨key, rfl, (by unfold kb; rw [if_neg (by rw [len_data]; exact h64)]), Below.refl _ _⟩
  case rest =>
    obtain ⟨K, rfl, hK, hb1⟩ := hcut
    have hks : K.size ≤ 64 := by rw [← len_data, hK]; exact kb_le _
    have HK := Lib.hid hK
    have HB1 := Lib.hid hb1
    clear hK hb1 hdz HZK
    go_wp2_with fail
    go_loopw [6, 7] (fun v i wr => ∃ k : Nat, k ≤ 64 ∧ i = .int .i64 (k : Int) ∧ OwnB wc.heap.size wr v ((mixd K.data.toList by_).take k) ∧ Below wc.heap.size wc wr) (fun _ i _ => 64 - (intOf i).toNat)
    case atStart => exact ⟨0, by decide, rfl, OwnB.nil _ _, Below.refl _ _⟩
    case round =>
      obtain ⟨k, hk, rfl, ho, hbl⟩ := hrel
      have HO := Lib.hid ho
      have HBL := Lib.hid hbl
      clear ho hbl
      by_cases hlt : k < 64
      · have hbs := HBL.out.size
        have hlen : ((mixd K.data.toList by_).take k).length ≤ 64 := by rw [List.length_take, mixd_length]; omega
        by_cases hks2 : k < K.size
        · obtain ⟨x, hx⟩ : ∃ x, x = K.data.toList.getD k 0 := ⟨_, rfl⟩
          have hxk : K[k]'hks2 = x := by
            rw [hx, List.getD_eq_getElem?_getD, List.getElem?_eq_getElem (by rw [len_data]; omega), Option.getD_some, Array.getElem_toList]; rfl
          obtain ⟨y, hy⟩ : ∃ y, y = x ^^^ by_ := ⟨_, rfl⟩
          have hxy := u8_xor_nat (x : UInt8).toNat by_.toNat (UInt8.toNat_lt _) by_.toNat_lt
          rw [← UInt8.toNat_xor, ← hy] at hxy
          have HT := Lib.hid (show (mixd K.data.toList by_).take (k + 1) = (mixd K.data.toList by_).take k ++ [y] by rw [mixd_take _ _ _ hlt, hy, hx])
          clear hy hx
          go_wp2_with (at_builtin; refine app_bytes rfl (.tmp 27) (.tmp 31) rfl wc.heap.size u6 _ [y] _ rfl rfl HO.out hbs (by simp; omega) 1 rfl rfl ?_)
          intro v' w2 own2 b2
          have HN := Lib.hid (show OwnB wc.heap.size w2 v' ((mixd K.data.toList by_).take (k + 1)) by rw [HT.out]; exact own2)
          have HB2 := Lib.hid (HBL.out.trans b2)
          clear own2 b2
          go_wp2_with fail
          go_roundw
          case rel => exact ⟨k + 1, by omega, by go_num, HN.out, HB2.out⟩
          case measure => simp [intOf]; omega
        · have hx : K.data.toList.getD k 0 = 0 := by rw [List.getD_eq_getElem?_getD, List.getElem?_eq_none (by rw [len_data]; omega)]; rfl
          obtain ⟨y, hy⟩ : ∃ y, y = (0 : UInt8) ^^^ by_ := ⟨_, rfl⟩
          have hxy := u8_xor_nat ((0 : UInt8) : UInt8).toNat by_.toNat (UInt8.toNat_lt _) by_.toNat_lt
          rw [← UInt8.toNat_xor, ← hy] at hxy
          have HT := Lib.hid (show (mixd K.data.toList by_).take (k + 1) = (mixd K.data.toList by_).take k ++ [y] by rw [mixd_take _ _ _ hlt, hy, hx])
          have hxy2 : bits .xor .u8 0 (by_.toNat : Int) = (y.toNat : Int) := hxy
          clear hy hx hxy
          go_wp2_with (at_builtin; refine app_bytes rfl (.tmp 27) (.tmp 31) rfl wc.heap.size u6 _ [y] _ rfl rfl HO.out hbs (by simp; omega) 1 rfl rfl ?_)
          intro v' w2 own2 b2
          have HN := Lib.hid (show OwnB wc.heap.size w2 v' ((mixd K.data.toList by_).take (k + 1)) by rw [HT.out]; exact own2)
          have HB2 := Lib.hid (HBL.out.trans b2)
          clear own2 b2
          go_wp2_with fail
          go_roundw
          case rel => exact ⟨k + 1, by omega, by go_num, HN.out, HB2.out⟩
          case measure => simp [intOf]; omega
      · obtain rfl : k = 64 := by omega
        clear hlt
        have HO1 := Lib.hid (show OwnB wc.heap.size wr u6 (mixd K.data.toList by_) by have := HO.out; rwa [List.take_of_length_le (by rw [mixd_length]; decide)] at this)
        have hcv := own_text wr _ u6 _ HO1.out wr rfl
        obtain ⟨T, hT⟩ : ∃ T, T = txt (mixd K.data.toList by_) := ⟨_, rfl⟩
        rw [← hT] at hcv
        have HT := Lib.hid (show T = txt (mixd (kb key.data.toList) by_) by rw [hT, HK.out])
        have HF := Lib.hid (HB1.out.trans (HBL.out.mono HB1.out.size))
        clear hT HO1 HK
        go_wp2_with fail
        obtain rfl := HT.out
        go_ret; exact ⟨rfl, HF.out⟩

theorem mixedL (key : ByteArray) (by_ : UInt8) (b : Int) (hb : b = (by_.toNat : Int)) (M : ByteArray) (hM : M = txt (mixd (kb key.data.toList) by_)) (hz : key.size ≤ 100000) (w : World) :
    Calls Tryd.prog 63 #[.string key, .int .u8 b] w fun e w' => e = .returned (.string M) ∧ Below w.heap.size w w' := by subst hb hM; exact mixed_any key by_ hz w

set_option maxRecDepth 100000 in
set_option maxHeartbeats 1000000 in
/-- The document's own code. -/
theorem OfR_any (key text : ByteArray) (D : Array Value) (hD : D = byv (code key.data.toList text.data.toList)) (w : World) (hk : key.size ≤ 90000) (hx : text.size ≤ 90000) :
    Calls Tryd.prog 41 #[.string key, .string text] w fun e w' => e = .returned (.agg D) ∧ Below w.heap.size w w' := by
  obtain ⟨z32, hz32⟩ : ∃ z32, z32 = byv (List.replicate 32 0) := ⟨_, rfl⟩
  have hdz := digest_zero
  rw [← hz32] at hdz
  have hzk : DOk z32 := by rw [hz32]; exact dok_zero
  have hdk : DOk D := by rw [hD]; exact dok _ (code_length _ _)
  obtain ⟨M1, hM1⟩ : ∃ M, M = txt (mixd (kb key.data.toList) 0x36) := ⟨_, rfl⟩
  obtain ⟨M2, hM2⟩ : ∃ M, M = txt (mixd (kb key.data.toList) 0x5c) := ⟨_, rfl⟩
  have m1s : M1.size = 64 := by rw [hM1]; simp [ByteArray.size, mixd_length]
  have m2s : M2.size = 64 := by rw [hM2]; simp [ByteArray.size, mixd_length]
  obtain ⟨L1, hL1⟩ : ∃ L, L = M1 ++ text := ⟨_, rfl⟩
  have l1s : L1.size ≤ 100000 := by rw [hL1, ByteArray.size_append]; omega
  obtain ⟨I, hI⟩ : ∃ I, I = digest L1.data.toList := ⟨_, rfl⟩
  have hil : I.length = 32 := by rw [hI, digest_length]
  obtain ⟨A, hA⟩ : ∃ A, A = byv I := ⟨_, rfl⟩
  have HAK := Lib.hid (show DOk A by rw [hA]; exact dok _ hil)
  obtain ⟨T, hT⟩ : ∃ T, T = txt I := ⟨_, rfl⟩
  have ts : T.size = 32 := by rw [hT]; simpa [ByteArray.size] using hil
  obtain ⟨L2, hL2⟩ : ∃ L, L = M2 ++ T := ⟨_, rfl⟩
  have l2s : L2.size ≤ 100000 := by rw [hL2, ByteArray.size_append]; omega
  have hcode : D = byv (digest L2.data.toList) := by
    have e1 : L1.data.toList = mixd (kb key.data.toList) 0x36 ++ text.data.toList := by rw [hL1, hM1, ByteArray.data_append]; simp
    have e2 : L2.data.toList = mixd (kb key.data.toList) 0x5c ++ I := by rw [hL2, hM2, hT, ByteArray.data_append]; simp
    rw [hD, code, e2, hI, e1]
  have hcat := fun W => run_string_add (P := Tryd.prog) W M1 text (by omega) (by omega)
  have HCAT := Lib.hid hcat
  have HL1 := Lib.hid hL1
  have HL2 := Lib.hid hL2
  have HM1 := Lib.hid hM1
  have HM2 := Lib.hid hM2
  have HI := Lib.hid (show A = byv (digest L1.data.toList) by rw [hA, hI])
  have HT := Lib.hid hT
  have HA := Lib.hid hA
  have HDC := Lib.hid hcode
  have HZK := Lib.hid hzk
  have HDK := Lib.hid hdk
  have s1 : (w.alloc (.cells z32 32)).heap.size = w.heap.size + 1 := World.size_alloc _ _
  have HR1 := Lib.hid (Blk.new w 32 z32)
  have HB1 := Lib.hid ((Below.refl w.heap.size w).alloc (Nat.le_refl _) (.cells z32 32))
  clear hz32 hD hzk hdk hM1 hM2 hL1 hL2 hI hA hT hcode hcat
  go_enter Tryd.func41, Tryd.ntmps41
  go_wp2_with fail
  refine (mixedL key 0x36 _ rfl M1 HM1.out (by omega) _).mono ?_
  rintro e W2 ⟨rfl, b2⟩
  rw [s1] at b2
  have HR2 := Lib.hid (HR1.out.below b2 (by omega))
  have HB2 := Lib.hid (HB1.out.trans (b2.mono (by omega)))
  clear b2 HR1 HB1 s1
  have hl1 := HL1.out.symm
  go_wp2_with fail
  clear hl1
  refine (refSumL L1 A HI.out l1s W2).mono ?_
  rintro e W3 ⟨rfl, b3⟩
  have HR3 := Lib.hid (HR2.out.below b3 HR2.out.lt)
  have HB3 := Lib.hid (HB2.out.trans (b3.mono HB2.out.size))
  have HN3 := Lib.hid (Blk.new W3 32 z32)
  obtain ⟨W4, hW4⟩ : ∃ W4, W4 = (W3.alloc (.cells z32 32)).setRow W3.heap.size A := ⟨_, rfl⟩
  have bA : Below W3.heap.size W3 W4 := by rw [hW4]; exact below_setRow ((Below.refl _ W3).alloc (Nat.le_refl _) _) (Nat.le_refl _) _
  have HA4 := Lib.hid (show Blk W4 W3.heap.size 32 A by rw [hW4]; exact setRow_heap _ _ _ _ _ _ HN3.out)
  have HAO := Lib.hid (show z32.size = A.size by rw [HZK.out.size, HAK.out.size])
  have HR4 := Lib.hid (HR3.out.below bA HR3.out.lt)
  have HB4 := Lib.hid (HB3.out.trans (bA.mono HB3.out.size))
  have HW4 := Lib.hid hW4
  obtain ⟨ga, hga⟩ : ∃ ga, ga = W3.heap.size := ⟨_, rfl⟩
  rw [← hga] at HA4
  have HGA := Lib.hid hga
  clear b3 HR2 HB2 HR3 HB3 bA hW4 hga
  go_wp2_with (refine wpList_store_row rfl 32 (.tmp 5) (.tmp 10) rfl W3.heap.size A rfl rfl 32 z32 HN3.out HAK.out.info HAO.out HAK.out.one ?_)
  rw [← HW4.out, ← HGA.out]
  have hsl := fun W => slice_all W ga
  have hcv : ∀ W, Below W4.heap.size W4 W → (convert 35 9 (.slice (some ⟨ga, 0, none⟩) 32 32)).run Tryd.prog W = .ok (.string T) W := fun W b => by
    have := conv_front W ga 32 I 32 32 (by rw [← HA.out]; exact HA4.out.below b HA4.out.lt) (by omega)
    rwa [List.take_of_length_le (by omega), ← HT.out] at this
  have TM := fun W => mixedL key 0x5c _ rfl M2 HM2.out (by omega) W
  have TS := fun W => refSumL L2 D HDC.out l2s W
  have HDO := Lib.hid (show z32.size = D.size by rw [HZK.out.size, HDK.out.size])
  have FIN : ∀ W, Below W4.heap.size W4 W → Blk (W.setRow w.heap.size D) w.heap.size 32 D ∧ Below w.heap.size w (W.setRow w.heap.size D) := fun W b =>
    ⟨setRow_heap _ _ _ _ _ _ (HR4.out.below b HR4.out.lt), below_setRow (HB4.out.trans (b.mono HB4.out.size)) (Nat.le_refl _) D⟩
  have BW : Below W4.heap.size W4 W4.drew := (Below.refl _ W4).drew
  refine walk_start 6 (fun W => Below W4.heap.size W4 W) (by kernel_rfl) (n := 7) rfl ?_
  obtain ⟨W9, hW9⟩ : ∃ W9, W9 = W4.drew := ⟨_, rfl⟩
  rw [← hW9] at BW ⊢
  clear hW9
  refine walk_free 0 (.string key) rfl (by kernel_rfl) (by kernel_rfl) (by kernel_rfl) (by kernel_rfl) (by kernel_rfl) (by kernel_rfl) BW (fun _ _ => by kernel_rfl) ?_
  refine walk_free 2 (.slice (some ⟨ga, 0, none⟩) 32 32) rfl (by kernel_rfl) (by kernel_rfl) (by kernel_rfl) (by kernel_rfl) (by kernel_rfl) (by kernel_rfl) BW (fun W _ => ex_slice0 32 (.tmp 5) (by kernel_rfl) (by kernel_rfl) (hsl W)) ?_
  refine walk_free 3 (.string T) rfl (by kernel_rfl) (by kernel_rfl) (by kernel_rfl) (by kernel_rfl) (by kernel_rfl) (by kernel_rfl) BW (fun W b => ex_convert 35 9 (.tmp 13) (by kernel_rfl) (by kernel_rfl) (hcv W b)) ?_
  refine walk_one 1 (by kernel_rfl) (do_call 1 rfl (by kernel_rfl) (by kernel_rfl) (TM _) (fun w' h => bel_in BW h) ?_)
  intro q hq
  have BQ := bel_in BW hq
  refine walk_free 4 (.string L2) rfl (by kernel_rfl) (by kernel_rfl) (by kernel_rfl) (by kernel_rfl) (by kernel_rfl) (by kernel_rfl) BQ (fun W _ => ex_strcat 9 9 (.tmp 12) (.tmp 14) (by kernel_rfl) M2 T L2 (by kernel_rfl) (by kernel_rfl) (by omega) (by omega) HL2.out) ?_
  refine walk_one 5 (by kernel_rfl) (do_call 5 rfl (by kernel_rfl) (by kernel_rfl) (TS _) (fun w' h => bel_in BQ h) ?_)
  intro p hp
  have BP := bel_in BQ hp
  refine walk_one 6 (by kernel_rfl) (do_last 6 rfl (by kernel_rfl) (ex_store_row 32 (.tmp 4) (.tmp 16) (by kernel_rfl) w.heap.size D (by kernel_rfl) (by kernel_rfl) 32 z32 (HR4.out.below BP HR4.out.lt) HDK.out.info HDO.out HDK.out.one) (by kernel_rfl) ?_)
  refine walk_end (by kernel_rfl) ?_
  have HFIN := Lib.hid (FIN p BP)
  clear FIN TM TS BP BQ BW hp hq hsl hcv
  go_wp2_with fail
  refine bodyPost_ret (results_cell_row rfl _ _ w.heap.size 32 D (0, 0) _ rfl HFIN.out.1 digest_under rfl HDK.out.info) rfl ⟨rfl, HFIN.out.2⟩
end Go.Proofs.YtcbakfnpbhgjoaaDoor
