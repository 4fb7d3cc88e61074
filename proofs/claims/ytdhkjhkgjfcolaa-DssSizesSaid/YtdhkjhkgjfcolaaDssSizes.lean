/-
  DssSizes returns true for all signals and lengths. No conditions.
-/
import Derived.Test.YtdhkjhkgjfcolaaDssWorks
import Derived.Test.YtdhkjhkgjfcolaaDssFit
import Derived.Test.YtdhkjhkgjfcolaaDssOpen
import Derived.Test.YtdhkjhkgjfcolaaByteMem
import Derived.WalkKit
import Derived.ProofKit
import Derived.OpenShut
import Derived.ShutString
import Derived.ChangeOld
import Derived.Below
import Derived.SizedLaws
namespace Go.Proofs.Ytdhkjhkgjfcolaa.dssSizes
open Go.ChangeShapes Go.WideShapes Go.ChangeAt Go.RowKit
open Go.ChangeMaps (open_string shut_string)
set_option linter.unusedVariables false

theorem front_byte (s : ByteArray) (k i : Nat) (hi : i < k) (hk : k ≤ s.size) : byteAt (s.extract 0 k) i = byteAt s i := by
  have hl := len_data s
  have e : s.extract 0 k = txt (s.data.toList.take k) := by
    apply ByteArray.ext
    apply Array.toList_inj.1
    rw [ByteArray.data_extract, Array.toList_extract, List.extract_eq_take_drop]
    simp [txt]
  unfold byteAt
  rw [e, txt_list, List.getD_eq_getElem?_getD, List.getD_eq_getElem?_getD, List.getElem?_take_of_lt hi]
/-- A body with bytes behind it, cut. -/
theorem cut_dec (y : Ds) (hy : y.Ok) (hm : y.May) (l : List UInt8) (k : Nat) (h2 : 2 ≤ k) (hk : k ≤ (txt y.body ++ txt l).size) : dec ((txt y.body ++ txt l).extract 0 k) = decc y.bits ((txt y.body ++ txt l).extract 0 k) := by
  have hs : ((txt y.body ++ txt l).extract 0 k).size = k := by rw [ByteArray.size_extract]; omega
  have h0 : byteAt ((txt y.body ++ txt l).extract 0 k) 0 = 32 := by rw [front_byte _ k 0 (by omega) hk, txt_app]; rfl
  have h1 : byteAt ((txt y.body ++ txt l).extract 0 k) 1 = y.bits := by rw [front_byte _ k 1 (by omega) hk, txt_app, ← u8_bits y]; rfl
  rw [dec_two _ (by omega) (by rw [h0]), h1]
theorem size_is (y : Ds) (hm : y.May) : 2 + (if y.ha then 4 else 0) + (if y.la then 4 else 0) + (if y.hm then 10 else 0) + (if y.ld then 4 else 0) = y.size := by
  obtain ⟨_, ⟨h1, h2, _⟩, _⟩ := hm
  unfold Ds.size siz
  cases e1 : y.ha <;> cases e2 : y.la <;> cases e3 : y.hm <;> cases e4 : y.ld <;> simp [e1, e2, e3, e4, wA, w4, w2] at h1 h2 ⊢
set_option maxHeartbeats 4000000 in
set_option maxRecDepth 100000 in
theorem walk (x : Ds) (hx : x.Ok) (n : Int) (hn : 0 ≤ n ∧ n ≤ 255) (w : World) :
    Calls Try.prog 7 #[.agg (dsv x), .int .u8 n] w fun e w' => e = .returned (.bool true) ∧ Below w.heap.size w w' := by
  have HX := Lib.hid hx
  have HC := Lib.hid (Blk.new w 26 (dsv x))
  have HB := Lib.hid ((Below.refl _ w).alloc (Nat.le_refl _) (.cells (dsv x) 26))
  have HL := Lib.hid (show w.heap.size < (w.alloc (.cells (dsv x) 26)).heap.size by simp)
  have HNI := Lib.hid hn
  clear hx hn
  go_enter Try.func7, Try.ntmps7
  go_wp2_with fail
  refine (works_t _).mono ?_
  rintro e W1 ⟨rfl, b⟩
  have HC1 := Lib.hid (HC.out.below b HL.out)
  have HB1 := Lib.hid (HB.out.trans (b.mono HB.out.size))
  clear b HC HB HL
  go_wp2_with (refine wpList_load_row rfl 26 _ rfl w.heap.size rfl 26 (dsv x) (0, 0) _ ?_ Try.underlying26 rfl ds_size ?_; exact HC1.out)
  refine (fit_any x HX.out W1).mono ?_
  rintro e W2 ⟨rfl, b⟩
  obtain ⟨y, hy⟩ : ∃ y, y = fitd x := ⟨_, rfl⟩
  rw [← hy]
  have HYO := Lib.hid (show y.Ok by rw [hy]; exact fit_ok x HX.out)
  have HYM := Lib.hid (show y.May by rw [hy]; exact fit_may x)
  have HC2 := Lib.hid (HC1.out.below b HC1.out.lt)
  have HB2 := Lib.hid (HB1.out.trans (b.mono HB1.out.size))
  clear b hy HC1 HB1
  obtain ⟨W3, hW3⟩ : ∃ W3, W3 = W2.setRow w.heap.size (dsv y) := ⟨_, rfl⟩
  have HC3 := Lib.hid (show Blk W3 w.heap.size 26 (dsv y) by rw [hW3]; exact setRow_heap _ _ _ _ _ _ HC2.out)
  have HB3 := Lib.hid (show Below w.heap.size w W3 by rw [hW3]; exact below_setRow HB2.out (Nat.le_refl _) _)
  have HW3 := Lib.hid hW3
  clear hW3
  go_wp2_with (first
    | (refine wpList_store_row rfl 26 _ _ rfl w.heap.size (dsv y) rfl rfl 26 (dsv x) ?_ ds_size rfl (ds_one _) ?_; exact HC2.out; rw [← HW3.out])
    | (refine wpList_load_row rfl 26 _ rfl w.heap.size rfl 26 (dsv y) (0, 0) _ ?_ Try.underlying26 rfl ds_size ?_; exact HC3.out))
  refine (Encode_any y HYO.out W3).mono ?_
  rintro e W4 ⟨rfl, b⟩
  rw [encV_t y HYM.out]
  obtain ⟨S, hS⟩ : ∃ S, S = txt y.body := ⟨_, rfl⟩
  rw [← hS]
  obtain ⟨N, hN⟩ : ∃ N, N = y.size := ⟨_, rfl⟩
  obtain ⟨M, hM⟩ : ∃ M, M = N + w2 y.hs := ⟨_, rfl⟩
  have hSM : S.size = M := by rw [hS, txt_size, y.body_size, hM, hN]
  have hN2 : 2 ≤ N := by rw [hN]; unfold Ds.size siz; omega
  have hN26 : N ≤ 26 := by rw [hN]; exact y.size_le
  have hw := w2_le y.hs
  have hMb : N ≤ M ∧ M ≤ 28 := by omega
  have hsi := size_is y HYM.out
  rw [← hN] at hsi
  have HC4 := Lib.hid (HC3.out.below b HC3.out.lt)
  have HB4 := Lib.hid (HB3.out.trans (b.mono HB3.out.size))
  have HS := Lib.hid hS
  have HN := Lib.hid hN
  have HM := Lib.hid hM
  have HSM := Lib.hid hSM
  have HSI := Lib.hid hsi
  have HMB := Lib.hid hMb
  have i2 : (2 : Int) ≤ (S.size : Int) := by omega
  clear b hS hN hM hSM hsi hw hMb HC2 HB2 HC3 HB3 HW3
  have c1 := HC4.out.cell 1
  have c2 := HC4.out.cell 2
  have c4 := HC4.out.cell 4
  have c5 := HC4.out.cell 5
  have c9 := HC4.out.cell 9
  simp only [List.getElem?_toArray, List.getElem?_cons_zero, List.getElem?_cons_succ] at c1 c2 c4 c5 c9
  go_upto_if 30 with fail
  obtain ⟨s1, hs1⟩ : ∃ s, s = 2 + (if y.ha then 4 else 0) := ⟨_, rfl⟩
  have b1 : s1 ≤ 12 := by rw [hs1]; split <;> omega
  have HS1 := Lib.hid hs1
  clear hs1
  go_cut [7] (fun v wx => v = .int .i64 (s1 : Int) ∧ W4 = wx)
  case first =>
    by_cases hf : y.ha = true
    · have e := HS1.out
      rw [if_pos hf] at e
      have HE := Lib.hid e
      clear e
      rw [hf]
      go_wp2_with fail
      go_meet
      exact ⟨val_int (by have := HE.out; first | omega | (unfold wrap64; omega)), rfl⟩
    · have hf' : y.ha = false := Bool.eq_false_iff.2 hf
      have e := HS1.out
      rw [if_neg hf] at e
      have HE := Lib.hid e
      clear e
      rw [hf']
      go_wp2_with fail
      go_meet
      exact ⟨val_int (by have := HE.out; omega), rfl⟩
  case rest =>
  obtain ⟨rfl, rfl⟩ := hcut
  go_upto_if 34 with fail
  obtain ⟨s2, hs2⟩ : ∃ s, s = s1 + (if y.la then 4 else 0) := ⟨_, rfl⟩
  have b2 : s2 ≤ 22 := by rw [hs2]; split <;> omega
  have HS2 := Lib.hid hs2
  clear hs2
  go_cut [7] (fun v wx => v = .int .i64 (s2 : Int) ∧ W4 = wx)
  case first =>
    by_cases hf : y.la = true
    · have e := HS2.out
      rw [if_pos hf] at e
      have HE := Lib.hid e
      clear e
      rw [hf]
      go_wp2_with fail
      go_meet
      exact ⟨val_int (by have := HE.out; first | omega | (unfold wrap64; omega)), rfl⟩
    · have hf' : y.la = false := Bool.eq_false_iff.2 hf
      have e := HS2.out
      rw [if_neg hf] at e
      have HE := Lib.hid e
      clear e
      rw [hf']
      go_wp2_with fail
      go_meet
      exact ⟨val_int (by have := HE.out; omega), rfl⟩
  case rest =>
  obtain ⟨rfl, rfl⟩ := hcut
  go_upto_if 38 with fail
  obtain ⟨s3, hs3⟩ : ∃ s, s = s2 + (if y.hm then 10 else 0) := ⟨_, rfl⟩
  have b3 : s3 ≤ 32 := by rw [hs3]; split <;> omega
  have HS3 := Lib.hid hs3
  clear hs3
  go_cut [7] (fun v wx => v = .int .i64 (s3 : Int) ∧ W4 = wx)
  case first =>
    by_cases hf : y.hm = true
    · have e := HS3.out
      rw [if_pos hf] at e
      have HE := Lib.hid e
      clear e
      rw [hf]
      go_wp2_with fail
      go_meet
      exact ⟨val_int (by have := HE.out; first | omega | (unfold wrap64; omega)), rfl⟩
    · have hf' : y.hm = false := Bool.eq_false_iff.2 hf
      have e := HS3.out
      rw [if_neg hf] at e
      have HE := Lib.hid e
      clear e
      rw [hf']
      go_wp2_with fail
      go_meet
      exact ⟨val_int (by have := HE.out; omega), rfl⟩
  case rest =>
  obtain ⟨rfl, rfl⟩ := hcut
  go_upto_if 42 with fail
  obtain ⟨s4, hs4⟩ : ∃ s, s = s3 + (if y.ld then 4 else 0) := ⟨_, rfl⟩
  have b4 : s4 ≤ 42 := by rw [hs4]; split <;> omega
  have HS4 := Lib.hid hs4
  clear hs4
  go_cut [7] (fun v wx => v = .int .i64 (s4 : Int) ∧ W4 = wx)
  case first =>
    by_cases hf : y.ld = true
    · have e := HS4.out
      rw [if_pos hf] at e
      have HE := Lib.hid e
      clear e
      rw [hf]
      go_wp2_with fail
      go_meet
      exact ⟨val_int (by have := HE.out; first | omega | (unfold wrap64; omega)), rfl⟩
    · have hf' : y.ld = false := Bool.eq_false_iff.2 hf
      have e := HS4.out
      rw [if_neg hf] at e
      have HE := Lib.hid e
      clear e
      rw [hf']
      go_wp2_with fail
      go_meet
      exact ⟨val_int (by have := HE.out; omega), rfl⟩
  case rest =>
  obtain ⟨rfl, rfl⟩ := hcut
  have h4N : s4 = N := by rw [HS4.out, HS3.out, HS2.out, HS1.out]; exact HSI.out
  subst h4N
  go_upto_if 47 with fail
  go_cut [8] (fun v wx => v = .int .i64 (M : Int) ∧ W4 = wx)
  case first =>
    by_cases hf : y.hs = true
    · have e := HM.out
      rw [hf] at e
      have HE := Lib.hid (show M = s4 + 2 from e)
      clear e
      rw [hf]
      go_wp2_with fail
      go_meet
      exact ⟨val_int (by have := HE.out; omega), rfl⟩
    · have hf' : y.hs = false := Bool.eq_false_iff.2 hf
      have e := HM.out
      rw [hf'] at e
      have HE := Lib.hid (show M = s4 + 0 from e)
      clear e
      rw [hf']
      go_wp2_with fail
      go_meet
      exact ⟨val_int (by have := HE.out; omega), rfl⟩
  case rest =>
  obtain ⟨rfl, rfl⟩ := hcut
  clear c1 c2 c5 c9
  obtain ⟨n0, n1⟩ := HNI.out
  obtain ⟨k, hk⟩ : ∃ k : Nat, (k : Int) = n % 40 := ⟨(n % 40).toNat, by omega⟩
  have hk40 : k < 40 := by omega
  have ew : (wrap64 n).tmod 40 = (k : Int) := by
    have : wrap64 n = n := by unfold wrap64; omega
    rw [this, Int.tmod_eq_emod_of_nonneg n0]
    exact hk.symm
  clear hk n0 n1
  go_wp2_with fail
  obtain ⟨Z, hZ⟩ : ∃ Z, txt (List.replicate 40 7) = Z := ⟨_, rfl⟩
  have hzz : Z.size = 40 := by rw [← hZ, txt_size, List.length_replicate]
  have HZ := Lib.hid hZ
  clear hZ
  refine (rep_any 7 40 (by decide) Z HZ.out _ rfl W4).mono ?_
  rintro e W5 ⟨rfl, b⟩
  have HC5 := Lib.hid (HC4.out.below b HC4.out.lt)
  have HB5 := Lib.hid (HB4.out.trans (b.mono HB4.out.size))
  clear b HC4 HB4 c4
  have hS28 : S.size ≤ 28 := by have := HSM.out; have := HMB.out; omega
  have hM28 : M ≤ 28 := HMB.out.2
  have e1 : ((S.size : Int) != (M : Int)) = false := by rw [HSM.out]; simp
  have e2 : ((S.size : Int) == (M : Int)) = true := by rw [HSM.out]; simp
  by_cases hk2 : k < 2
  · go_wp2_with fail
    go_ret; exact ⟨rfl, HB5.out⟩
  have hT : (S ++ Z).size = M + 40 := by rw [ByteArray.size_append, HSM.out, hzz]
  have i40 : (k : Int) ≤ ((S ++ Z).size : Int) := by rw [hT]; omega
  have hD : dec ((S ++ Z).extract 0 k) = decc y.bits ((S ++ Z).extract 0 k) := by
    have := cut_dec y HYO.out HYM.out (List.replicate 40 7) k (by omega) (by rw [← HS.out, HZ.out, hT]; omega)
    rw [← HS.out, HZ.out] at this
    exact this
  have ht := bits_tell y HYM.out.2.1
  have hsz : sizc y.bits = s4 := by rw [sizc_of y _ ht, ← HN.out]
  have hhas := has_of y HYM.out _ ht
  have hes : ((S ++ Z).extract 0 k).size = k := by rw [ByteArray.size_extract]; omega
  have h4 : fl y.bits 4 = y.hm := ht.2.2.1
  have c4 := HC5.out.cell 4
  simp only [List.getElem?_toArray, List.getElem?_cons_zero, List.getElem?_cons_succ] at c4
  obtain ⟨E, hE⟩ : ∃ E, E = (S ++ Z).extract 0 k := ⟨_, rfl⟩
  rw [← hE] at hD hes
  have hE36 : E.size ≤ 40 := by omega
  have HEE := Lib.hid hE
  by_cases kN : k = s4
  · obtain ⟨z, hz⟩ : ∃ z, z = gotc y.bits E false := ⟨_, rfl⟩
    have hz9 : z.hs = false := by rw [hz]; rfl
    have HV := Lib.hid (show decV E = .tuple #[.agg (dsv z), .int .i64 0] by rw [decV, hD, decc, if_neg hhas, if_neg (by rw [hsz]; omega), if_pos (by rw [hsz]; omega), hz])
    have k1 : ((k : Int) == (s4 : Int)) = true := by rw [kN]; simp
    have k2 : ((k : Int) != (s4 : Int)) = false := by rw [kN]; simp
    clear hz kN hD ht hsz hhas hes h4 hE e2 hT
    go_wp2_with fail
    rw [← HEE.out]
    refine (Decode_any E W5 (by omega)).mono ?_
    rintro e W6 ⟨rfl, b⟩
    rw [HV.out]
    have HC6 := Lib.hid (HC5.out.below b HC5.out.lt)
    have HB6 := Lib.hid (HB5.out.trans (b.mono HB5.out.size))
    clear b c4
    have c4 := HC6.out.cell 4
    simp only [List.getElem?_toArray, List.getElem?_cons_zero, List.getElem?_cons_succ] at c4
    have c4' := fun o : Obj => (HC6.out.alloc o).cell 4
    simp only [List.getElem?_toArray, List.getElem?_cons_zero, List.getElem?_cons_succ] at c4'
    have hl6 := HC6.out.lt
    go_wp2_with fail
    go_ret; exact ⟨rfl, HB6.out.alloc HB6.out.size _⟩
  · have k1 : ((k : Int) == (s4 : Int)) = false := by rw [beq_eq_false_iff_ne]; omega
    have k2 : ((k : Int) != (s4 : Int)) = true := by rw [bne_iff_ne]; omega
    by_cases kS : y.hm = true ∧ k = s4 + 2
    · obtain ⟨z, hz⟩ : ∃ z, z = gotc y.bits E true := ⟨_, rfl⟩
      have hz9 : z.hs = true := by rw [hz]; rfl
      have hy4 : y.hm = true := kS.1
      have HV := Lib.hid (show decV E = .tuple #[.agg (dsv z), .int .i64 0] by rw [decV, hD, decc, if_neg hhas, if_neg (by rw [hsz]; omega), if_neg (by rw [hsz]; omega), if_pos ⟨by rw [h4]; exact hy4, by rw [hsz]; omega⟩, hz])
      have k3 : ((k : Int) == (s4 : Int) + 2) = true := by rw [beq_iff_eq]; omega
      clear hz kN kS hD ht hsz hhas hes h4 hE e2 hT
      go_wp2_with fail
      rw [← HEE.out]
      refine (Decode_any E W5 (by omega)).mono ?_
      rintro e W6 ⟨rfl, b⟩
      rw [HV.out]
      have HC6 := Lib.hid (HC5.out.below b HC5.out.lt)
      have HB6 := Lib.hid (HB5.out.trans (b.mono HB5.out.size))
      clear b c4
      have c4 := HC6.out.cell 4
      simp only [List.getElem?_toArray, List.getElem?_cons_zero, List.getElem?_cons_succ] at c4
      have c4' := fun o : Obj => (HC6.out.alloc o).cell 4
      simp only [List.getElem?_toArray, List.getElem?_cons_zero, List.getElem?_cons_succ] at c4'
      have hl6 := HC6.out.lt
      go_wp2_with fail
      go_ret; exact ⟨rfl, HB6.out.alloc HB6.out.size _⟩
    · by_cases kL : k < s4
      · have HF := Lib.hid (show dec E = (.zero, 4) by rw [hD, decc, if_neg hhas, if_pos (by rw [hsz]; omega)])
        have HV := Lib.hid (show decV E = .tuple #[.agg (dsv .zero), .int .i64 4] by rw [decV, HF.out])
        have k3 : ((k : Int) == (s4 : Int) + 2) = false := by rw [beq_eq_false_iff_ne]; omega
        clear kN kS hD ht hsz hhas hes h4 hE e2 hT
        go_wp2_with fail
        rw [← HEE.out]
        refine (Decode_any E W5 (by omega)).mono ?_
        rintro e W6 ⟨rfl, b⟩
        rw [HV.out]
        have HC6 := Lib.hid (HC5.out.below b HC5.out.lt)
        have HB6 := Lib.hid (HB5.out.trans (b.mono HB5.out.size))
        clear b c4
        have c4 := HC6.out.cell 4
        simp only [List.getElem?_toArray, List.getElem?_cons_zero, List.getElem?_cons_succ] at c4
        have c4' := fun o : Obj => (HC6.out.alloc o).cell 4
        simp only [List.getElem?_toArray, List.getElem?_cons_zero, List.getElem?_cons_succ] at c4'
        have hl6 := HC6.out.lt
        go_wp2_with fail
        rw [← HEE.out]
        refine (none_t E (by omega) 4 HF.out _).mono ?_
        rintro e W7 ⟨rfl, b⟩
        have hb7 := HB6.out.alloc HB6.out.size (.cells (dsv .zero) 26)
        have HB7 := Lib.hid (hb7.trans (b.mono hb7.size))
        clear b hb7
        go_wp2_with fail
        go_ret; exact ⟨rfl, HB7.out⟩
      · have HF := Lib.hid (show dec E = (.zero, 5) by rw [hD, decc, if_neg hhas, if_neg (by rw [hsz]; omega), if_neg (by rw [hsz]; omega), if_neg (fun q => kS ⟨by rw [← h4]; exact q.1, by have := q.2; rw [hsz] at this; omega⟩)])
        have HV := Lib.hid (show decV E = .tuple #[.agg (dsv .zero), .int .i64 5] by rw [decV, HF.out])
        by_cases k5 : k = s4 + 2
        · have hy4 : y.hm = false := Bool.eq_false_iff.2 (fun q => kS ⟨q, k5⟩)
          have k3 : ((k : Int) == (s4 : Int) + 2) = true := by rw [beq_iff_eq]; omega
          clear kN kS hD ht hsz hhas hes h4 hE e2 hT k5
          go_wp2_with fail
          rw [← HEE.out]
          refine (Decode_any E W5 (by omega)).mono ?_
          rintro e W6 ⟨rfl, b⟩
          rw [HV.out]
          have HC6 := Lib.hid (HC5.out.below b HC5.out.lt)
          have HB6 := Lib.hid (HB5.out.trans (b.mono HB5.out.size))
          clear b c4
          have c4 := HC6.out.cell 4
          simp only [List.getElem?_toArray, List.getElem?_cons_zero, List.getElem?_cons_succ] at c4
          have c4' := fun o : Obj => (HC6.out.alloc o).cell 4
          simp only [List.getElem?_toArray, List.getElem?_cons_zero, List.getElem?_cons_succ] at c4'
          have hl6 := HC6.out.lt
          go_wp2_with fail
          rw [← HEE.out]
          refine (none_t E (by omega) 5 HF.out _).mono ?_
          rintro e W7 ⟨rfl, b⟩
          have hb7 := HB6.out.alloc HB6.out.size (.cells (dsv .zero) 26)
          have HB7 := Lib.hid (hb7.trans (b.mono hb7.size))
          clear b hb7
          go_wp2_with fail
          go_ret; exact ⟨rfl, HB7.out⟩
        · have k3 : ((k : Int) == (s4 : Int) + 2) = false := by rw [beq_eq_false_iff_ne]; omega
          clear kN kS hD ht hsz hhas hes h4 hE e2 hT k5
          go_wp2_with fail
          rw [← HEE.out]
          refine (Decode_any E W5 (by omega)).mono ?_
          rintro e W6 ⟨rfl, b⟩
          rw [HV.out]
          have HC6 := Lib.hid (HC5.out.below b HC5.out.lt)
          have HB6 := Lib.hid (HB5.out.trans (b.mono HB5.out.size))
          clear b c4
          have c4 := HC6.out.cell 4
          simp only [List.getElem?_toArray, List.getElem?_cons_zero, List.getElem?_cons_succ] at c4
          have c4' := fun o : Obj => (HC6.out.alloc o).cell 4
          simp only [List.getElem?_toArray, List.getElem?_cons_zero, List.getElem?_cons_succ] at c4'
          have hl6 := HC6.out.lt
          go_wp2_with fail
          rw [← HEE.out]
          refine (none_t E (by omega) 5 HF.out _).mono ?_
          rintro e W7 ⟨rfl, b⟩
          have hb7 := HB6.out.alloc HB6.out.size (.cells (dsv .zero) 26)
          have HB7 := Lib.hid (hb7.trans (b.mono hb7.size))
          clear b hb7
          go_wp2_with fail
          go_ret; exact ⟨rfl, HB7.out⟩

theorem own : ownKnob Try.prog.godebug = none := by kernel_rfl
theorem laidOut : laidOutB Try.prog = true := by kernel_rfl

set_option maxRecDepth 100000 in
theorem lifted (os : Os) (started : os.Started) (H : Type) (enc : TypeId × Value → H) :
    ReturnsInHanded {} Try.checked os 7 .any (Rows.dssSizesSpec.pre6 enc Try.prog Try.f7 Rows.dssSizesRow.domain false) (Rows.dssSizesSpec.post enc Try.prog Try.f7 false true false false) := by
  refine returnsInHanded_of_change (C := Try.checked) own started (by kernel_rfl) Try.func7
    (ChangeSpec.witness6 (enc := enc) (C := Try.checked) false ⟨#[], #[.agg #[.bool false, .bool false, .bool false, .int .u64 0, .bool false, .bool false, .int .u64 0, .int .u32 0, .int .i64 0, .bool false, .int .u16 0], .int .u8 0], []⟩ 8 (by kernel_rfl) (by kernel_rfl) (by kernel_rfl) (by kernel_rfl)) ?_
  intro W base args ds gs before hval0 hW hcnd _
  have hval : ∀ (j : Nat) t v, Try.f7.params[j]? = some t → args[j]? = some v → Value.okWide Try.prog W .any base t v := hval0
  have hW' := hW
  obtain ⟨p, q, hA0, hV, rfl, hfz, hnd⟩ := hW
  have hA : DataW.TrodAll enc Try.prog W 0 (fun _ => true) true Try.f7.params.toList args.toList ds p := hA0
  rw [Try.params7] at hA hval
  obtain ⟨v0, vs0, d0, ds0, p0, q0, hargs, rfl, rfl, h0, r0⟩ := trodAll_cons hA
  obtain ⟨v1, vs1, d1, ds1, p1, q1, rfl, rfl, rfl, h1, r1⟩ := trodAll_cons r0
  obtain ⟨rfl, rfl, rfl⟩ := trodAll_nil r1
  obtain rfl : args = #[v0, v1] := by cases args; simp_all
  obtain ⟨rfl, rfl⟩ := trodVars_none hV
  have k0 := h0
  have lt0 : ∀ x ∈ p0, x.block < W.heap.size := by obtain ⟨m, hm⟩ := k0; exact DataW.trod_lt m _ _ _ hm
  obtain ⟨a0, rfl, o0⟩ := open_dss (hval 0 26 v0 rfl rfl) h0
  obtain ⟨a1, rfl, rfl, rfl, w1⟩ := open_int Try.underlying5 (hval 1 5 v1 rfl rfl) h1
  clear hA0 hval0
  simp only [List.append_nil] at hW'
  refine (walk a0 o0 a1 (bounds_u8 w1) W).mono fun e W' ⟨he, bel⟩ => ?_
  subst he
  exact ⟨_, rfl, _, _, _, [], _, [], hW', trodAll_mk1 (shut_bool Try.underlying4 _), (trodAll_cons_mk (Below.trod laidOut (by kernel_rfl) (of_decide_eq_true (by kernel_rfl)) k0 bel lt0) (trodAll_cons_mk (shut_int Try.underlying5 w1) trodAll_mk0)), rfl, bel.frame _, fun h => by cases h⟩

theorem over : Rows.dssSizesRow.holds Try.pinned (OpenSpec.ofChange Rows.dssSizesSpec) :=
  OpenClaim.holds_of_wide 7 Try.f7 rfl rfl rfl rfl rfl rfl rfl ⟨rfl, rfl, rfl, rfl, rfl⟩ rfl rfl rfl rfl rfl (by kernel_rfl) Try.func7 (by kernel_rfl)
    (of_decide_eq_true (by kernel_rfl)) (by unfold Func.isWrapper; first | (rw [if_pos (by decide +kernel)]; kernel_rfl) | (rw [if_neg (by decide +kernel)]; exact ⟨rfl, rfl⟩))
    (fun os started H enc _ => lifted os started H enc)

theorem proved : Rows.DssSizesSaid := over
#print axioms proved
end Go.Proofs.Ytdhkjhkgjfcolaa.dssSizes
