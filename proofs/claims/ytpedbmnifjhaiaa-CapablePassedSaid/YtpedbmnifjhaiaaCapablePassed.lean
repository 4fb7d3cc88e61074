/-
  CapablePassed returns true for all options, bits and lengths. No conditions.
-/
import Derived.Test.YtpedbmnifjhaiaaCapWorks
import Derived.Test.YtpedbmnifjhaiaaCapFit
import Derived.Test.YtpedbmnifjhaiaaCapOpen
import Derived.Test.YtpedbmnifjhaiaaByteMem
import Derived.WalkKit
import Derived.ProofKit
import Derived.OpenShut
import Derived.ShutString
import Derived.ChangeOld
import Derived.Below
import Derived.SizedLaws
namespace Go.Proofs.Ytpedbmnifjhaiaa.capablePassed
open Go.ChangeShapes Go.WideShapes Go.ChangeAt Go.RowKit
open Go.ChangeMaps (open_string shut_string)
set_option linter.unusedVariables false

/-- The flags of an option. -/
def flg (s a : Bool) : Nat := 1 + (if s then 128 else 0) + (if a then 32 else 0)
theorem flag_or : ∀ (s a : Bool) (b : Fin 256), bits .or .u8 (flg s a : Int) (bits .and .u8 (b.val : Int) 94) = (((bits .or .u8 (flg s a : Int) (bits .and .u8 (b.val : Int) 94)).toNat : Nat) : Int) ∧ (bits .or .u8 (flg s a : Int) (bits .and .u8 (b.val : Int) 94)).toNat < 256 ∧ (bits .or .u8 (flg s a : Int) (bits .and .u8 (b.val : Int) 94)).toNat % 2 = 1 ∧ decide (128 ≤ (bits .or .u8 (flg s a : Int) (bits .and .u8 (b.val : Int) 94)).toNat) = s ∧ decide ((bits .or .u8 (flg s a : Int) (bits .and .u8 (b.val : Int) 94)).toNat / 32 % 2 = 1) = a := by decide +kernel
theorem one_byte (n : Nat) : be 1 n = [UInt8.ofNat n] := by simp [be]
/-- Bits that are passed over make no difference. -/
theorem dec_set (y : Cap) (hy : y.Ok) (hm : y.May) (c : Nat) (hc : c < 256) (h0 : c % 2 = 1) (h1 : decide (128 ≤ c) = y.sums) (h2 : decide (c / 32 % 2 = 1) = y.alone) : dec (txt (y.body.set 1 (UInt8.ofNat c))) = (y, 0) := by
  have h := y.dec_of hy hm c hc h0 h1 h2
  have e : y.body.set 1 (UInt8.ofNat c) = be 1 y.ver.toNat ++ be 1 c ++ y.body.drop 2 := by
    have := y.body_parts hm.1.1 hm.1.2
    obtain ⟨r, hr⟩ : ∃ r, r = y.body.drop 2 := ⟨_, rfl⟩
    rw [← hr] at this ⊢
    rw [this, one_byte, one_byte, one_byte]
    rfl
  rw [e]; exact h
theorem body_1 (y : Cap) (hm : y.May) (h : 1 < y.body.length) : (y.body[1]'h).toNat = flg y.sums y.alone := by
  have hp := y.body_parts hm.1.1 hm.1.2
  have hl := y.flags_lt
  have : y.body[1]? = some (UInt8.ofNat y.flags) := by rw [hp, one_byte, one_byte]; rfl
  rw [List.getElem?_eq_getElem h] at this
  injection this with this
  rw [this, UInt8.toNat_ofNat']
  show y.flags % 256 = _
  rw [Nat.mod_eq_of_lt hl]; rfl
theorem body_0 (y : Cap) (hm : y.May) : byteAt (txt y.body) 0 = y.ver.toNat := by
  have hp := y.body_parts hm.1.1 hm.1.2
  have h15 := hm.2.1
  rw [hp, one_byte]
  show (UInt8.ofNat y.ver.toNat).toNat = _
  rw [UInt8.toNat_ofNat']
  omega
theorem size_two (y : Cap) (hm : y.May) : 2 ≤ Cap.size y.form ∧ Cap.size y.form ≤ 22 := by
  obtain ⟨⟨f0, f5⟩, _⟩ := hm
  have : y.form = 0 ∨ y.form = 1 ∨ y.form = 2 ∨ y.form = 3 ∨ y.form = 4 := by omega
  rcases this with h | h | h | h | h <;> rw [h] <;> decide
/-- A body with zeros behind it, cut where no form's body ends, is none. -/
theorem dec_cut (y : Cap) (hm : y.May) (k : Nat) (hk : k < 40) (h : k ≠ 0 ∧ k ≠ 2 ∧ k ≠ 10 ∧ k ≠ 18 ∧ k ≠ 20 ∧ k ≠ 22) (T : ByteArray) (hT : T = txt y.body ++ txt (List.replicate 40 0)) : dec (T.extract 0 k) = (.zero, 5) := by
  have hz := size_two y hm
  have hb := y.body_size hm.1.1 hm.1.2
  have hTs : T.size = Cap.size y.form + 40 := by rw [hT, ByteArray.size_append, txt_size, txt_size, hb, List.length_replicate]
  have hes : (T.extract 0 k).size = k := by rw [ByteArray.size_extract]; omega
  have h0 : byteAt (T.extract 0 k) 0 = y.ver.toNat := by
    rw [← body_0 y hm]
    unfold byteAt
    congr 1
    have e : T.extract 0 k = txt (T.data.toList.take k) := by
      apply ByteArray.ext
      apply Array.toList_inj.1
      rw [ByteArray.data_extract, Array.toList_extract, List.extract_eq_take_drop]
      simp [txt]
    rw [e, txt_list, hT, txt_app, txt_list, txt_list, List.getD_eq_getElem?_getD, List.getD_eq_getElem?_getD, List.getElem?_take_of_lt (by omega), List.getElem?_append_left (by omega)]
  have h15 := hm.2.1
  have hf : formOf k = none := by
    rcases formOf_cases k with ⟨z, e⟩ | ⟨z, e⟩ | ⟨z, e⟩ | ⟨z, e⟩ | ⟨z, e⟩ | ⟨z, e⟩
    case inr.inr.inr.inr.inr => exact e
    all_goals exact absurd z (by omega)
  unfold dec
  rw [hes, if_neg h.1, h0, if_neg (by omega), hf]

set_option maxHeartbeats 4000000 in
set_option maxRecDepth 100000 in
theorem walk (x : Cap) (hx : x.Ok) (bi n : Int) (hb : 0 ≤ bi ∧ bi ≤ 255) (hn : 0 ≤ n ∧ n ≤ 255) (w : World) :
    Calls Try.prog 6 #[.agg (capv x), .int .u8 bi, .int .u8 n] w fun e w' => e = .returned (.bool true) ∧ Below w.heap.size w w' := by
  have HX := Lib.hid hx
  have HC := Lib.hid (Blk.new w 25 (capv x))
  have HB := Lib.hid ((Below.refl _ w).alloc (Nat.le_refl _) (.cells (capv x) 25))
  have HL := Lib.hid (show w.heap.size < (w.alloc (.cells (capv x) 25)).heap.size by simp)
  have HBI := Lib.hid hb
  have HNI := Lib.hid hn
  clear hx hb hn
  go_enter Try.func6, Try.ntmps6
  go_wp2_with fail
  refine (works_t _).mono ?_
  rintro e W1 ⟨rfl, b⟩
  have HC1 := Lib.hid (HC.out.below b HL.out)
  have HB1 := Lib.hid (HB.out.trans (b.mono HB.out.size))
  clear b HC HB HL
  go_wp2_with (refine wpList_load_row rfl 25 _ rfl w.heap.size rfl 25 (capv x) (0, 0) _ ?_ Try.underlying25 rfl cap_size ?_; exact HC1.out)
  refine (fit_any x HX.out W1).mono ?_
  rintro e W2 ⟨rfl, b⟩
  obtain ⟨y, hy⟩ : ∃ y, y = fitc x := ⟨_, rfl⟩
  rw [← hy]
  have HYO := Lib.hid (show y.Ok by rw [hy]; exact fit_ok x HX.out)
  have HYM := Lib.hid (show y.May by rw [hy]; exact fit_may x)
  have HC2 := Lib.hid (HC1.out.below b HC1.out.lt)
  have HB2 := Lib.hid (HB1.out.trans (b.mono HB1.out.size))
  clear b hy HC1 HB1
  obtain ⟨W3, hW3⟩ : ∃ W3, W3 = W2.setRow w.heap.size (capv y) := ⟨_, rfl⟩
  have HC3 := Lib.hid (show Blk W3 w.heap.size 25 (capv y) by rw [hW3]; exact setRow_heap _ _ _ _ _ _ HC2.out)
  have HB3 := Lib.hid (show Below w.heap.size w W3 by rw [hW3]; exact below_setRow HB2.out (Nat.le_refl _) _)
  have HW3 := Lib.hid hW3
  clear hW3
  go_wp2_with (first
    | (refine wpList_store_row rfl 25 _ _ rfl w.heap.size (capv y) rfl rfl 25 (capv x) ?_ cap_size rfl (cap_one _) ?_; exact HC2.out; rw [← HW3.out])
    | (refine wpList_load_row rfl 25 _ rfl w.heap.size rfl 25 (capv y) (0, 0) _ ?_ Try.underlying25 rfl cap_size ?_; exact HC3.out))
  refine (Encode_any y HYO.out W3).mono ?_
  rintro e W4 ⟨rfl, b⟩
  rw [encV_t y HYM.out]
  obtain ⟨l, hl⟩ : ∃ l, l = y.body := ⟨_, rfl⟩
  obtain ⟨S, hS⟩ : ∃ S, S = txt l := ⟨_, rfl⟩
  rw [← hl, ← hS]
  have hz := size_two y HYM.out
  have hll : l.length = Cap.size y.form := by rw [hl]; exact y.body_size HYM.out.1.1 HYM.out.1.2
  have hSs : S.size = l.length := by rw [hS, txt_size]
  have HLL := Lib.hid hl
  have HS := Lib.hid hS
  have i2 : (2 : Int) ≤ (S.size : Int) := by omega
  have i22 : (S.size : Int) ≤ 22 := by omega
  have n22 : S.size ≤ 22 := by omega
  have HSL := Lib.hid hSs
  have l1 : 1 < l.length := by omega
  have HC4 := Lib.hid (HC3.out.below b HC3.out.lt)
  have HB4 := Lib.hid (HB3.out.trans (b.mono HB3.out.size))
  clear b hl hS hz hll hSs HC2 HB2 HC3 HB3 HW3
  obtain ⟨cp, W5, hcv, hbt, hbl, hsz⟩ := text_bytes W4 S
  obtain ⟨g, hg⟩ : ∃ g, g = W4.heap.size := ⟨_, rfl⟩
  rw [← hg] at hcv hbt hsz
  have hdl : S.data.toList = l := by rw [HS.out]; rfl
  rw [hdl] at hbt
  have hne : w.heap.size < g := by rw [hg]; exact HC4.out.lt
  have HC5 := Lib.hid (HC4.out.below hbl HC4.out.lt)
  have HB5 := Lib.hid (HB4.out.trans (hbl.mono HB4.out.size))
  have HBT := Lib.hid hbt
  have HNE := Lib.hid hne
  clear hbt hbl hsz hg hdl hne HC4 HB4
  obtain ⟨F, hF⟩ : ∃ F : Nat, F = flg y.sums y.alone := ⟨_, rfl⟩
  have c1 := HBT.out.cell 1 l1
  have f1 := HBT.out.frozen 1 l1
  have hb1 : (l[1].toNat : Int) = (F : Int) := by
    have h := body_1 y HYM.out (by rw [← HLL.out]; exact l1)
    have e : l[1] = y.body[1]'(by rw [← HLL.out]; exact l1) := by
      have h1 : l[1]? = y.body[1]? := by rw [HLL.out]
      rw [List.getElem?_eq_getElem l1, List.getElem?_eq_getElem (by rw [← HLL.out]; exact l1)] at h1
      exact Option.some.inj h1
    rw [e, h, hF]
  rw [hb1] at c1
  obtain ⟨bn, hbn⟩ := Int.eq_ofNat_of_zero_le HBI.out.1
  have hbn2 : bn < 256 := by have := HBI.out.2; omega
  obtain ⟨c, hc⟩ : ∃ c : Nat, c = (bits .or .u8 (flg y.sums y.alone : Int) (bits .and .u8 (bn : Int) 94)).toNat := ⟨_, rfl⟩
  obtain ⟨q0, q1, q2, q3, q4⟩ := flag_or y.sums y.alone ⟨bn, hbn2⟩
  rw [← hc] at q0 q1 q2 q3 q4
  obtain ⟨v, hv⟩ : ∃ v, v = UInt8.ofNat c := ⟨_, rfl⟩
  have hvc : (v.toNat : Int) = (c : Int) := by rw [hv, UInt8.toNat_ofNat']; omega
  have e8 : bits .or .u8 (F : Int) (bits .and .u8 bi 94) = (v.toNat : Int) := by rw [hF, hbn, hvc]; exact q0
  have HD := Lib.hid (show decV (txt (l.set 1 v)) = .tuple #[.agg (capv y), .int .i64 0] by rw [decV, HLL.out, hv, dec_set y HYO.out HYM.out c q1 q2 q3 q4])
  obtain ⟨W6, hW6⟩ : ∃ W6, W6 = W5.setCell ⟨g, 1, none⟩ (.int .u8 (v.toNat : Int)) := ⟨_, rfl⟩
  have HB6 := Lib.hid (show Below w.heap.size w W6 by rw [hW6]; exact HB5.out.setCell (p := ⟨g, 1, none⟩) (Nat.le_of_lt HNE.out) _)
  have HC6 := Lib.hid (show Blk W6 w.heap.size 25 (capv y) by rw [hW6]; exact HC5.out.setOther (by have := HNE.out; omega) _ _)
  have hbt6 : Bts W6 g (l.set 1 v) := by rw [hW6]; exact HBT.out.set_ 1 v l1
  have hcv6 := bytes_text W6 g cp S.size (l.set 1 v) hbt6 (by rw [List.length_set]; exact HSL.out)
  rw [hW6] at hcv6
  have HW6 := Lib.hid hW6
  obtain ⟨S2, hS2⟩ : ∃ S2, S2 = txt (l.set 1 v) := ⟨_, rfl⟩
  rw [← hS2] at hcv6
  have HS2 := Lib.hid hS2
  have z2 : S2.size ≤ 22 := by rw [hS2, txt_size, List.length_set, ← HSL.out]; exact n22
  rw [← hS2] at HD
  clear hb1 hF hbn hbn2 hc q0 q1 q2 q3 q4 hv hvc hW6 hbt6 hS2
  go_wp2_with fail
  rw [← HW6.out]
  refine (Decode_any S2 W6 (by omega)).mono ?_
  rintro e W7 ⟨rfl, b⟩
  rw [HD.out]
  have HC7 := Lib.hid (HC6.out.below b HC6.out.lt)
  have HB7 := Lib.hid (HB6.out.trans (b.mono HB6.out.size))
  clear b hcv6 c1 f1 e8 hcv
  obtain ⟨h, hh⟩ : ∃ h, h = W7.heap.size := ⟨_, rfl⟩
  have HH8 := Lib.hid (Blk.new W7 25 (capv y))
  have HC8 := Lib.hid (show Blk (W7.alloc (.cells (capv y) 25)) w.heap.size 25 (capv y) from HC7.out.alloc _)
  have HB8 := Lib.hid (show Below w.heap.size w (W7.alloc (.cells (capv y) 25)) from HB7.out.alloc HB7.out.size _)
  obtain ⟨n0, n1⟩ := HNI.out
  obtain ⟨k, hk⟩ : ∃ k : Nat, (k : Int) = n % 40 := ⟨(n % 40).toNat, by omega⟩
  have hk40 : k < 40 := by omega
  have ew : (wrap64 n).tmod 40 = (k : Int) := by
    have : wrap64 n = n := by unfold wrap64; omega
    rw [this, Int.tmod_eq_emod_of_nonneg n0]
    exact hk.symm
  clear hk n0 n1
  by_cases hin : k = 0 ∨ k = 2 ∨ k = 10 ∨ k = 18 ∨ k = 20 ∨ k = 22
  · rcases hin with rfl | rfl | rfl | rfl | rfl | rfl
    all_goals
      go_wp2_with (first
        | (refine wpList_load_row_w (by rfl) 25 _ rfl W7.heap.size rfl 25 (capv y) (0, 0) _ ?_ Try.underlying25 rfl cap_size ?_; exact HH8.out)
        | (refine wpList_load_row_w (by rfl) 25 _ rfl w.heap.size rfl 25 (capv y) (0, 0) _ ?_ Try.underlying25 rfl cap_size ?_; exact HC8.out))
      go_ret; exact ⟨rfl, HB8.out⟩
  · have d0 : ((k : Int) == 0) = false := by rw [beq_eq_false_iff_ne]; omega
    have d2 : ((k : Int) == 2) = false := by rw [beq_eq_false_iff_ne]; omega
    have d10 : ((k : Int) == 10) = false := by rw [beq_eq_false_iff_ne]; omega
    have d18 : ((k : Int) == 18) = false := by rw [beq_eq_false_iff_ne]; omega
    have d20 : ((k : Int) == 20) = false := by rw [beq_eq_false_iff_ne]; omega
    have d22 : ((k : Int) == 22) = false := by rw [beq_eq_false_iff_ne]; omega
    have HN := Lib.hid (show k ≠ 0 ∧ k ≠ 2 ∧ k ≠ 10 ∧ k ≠ 18 ∧ k ≠ 20 ∧ k ≠ 22 by omega)
    clear hin
    go_wp2_with (first
      | (refine wpList_load_row_w (by rfl) 25 _ rfl W7.heap.size rfl 25 (capv y) (0, 0) _ ?_ Try.underlying25 rfl cap_size ?_; exact HH8.out)
      | (refine wpList_load_row_w (by rfl) 25 _ rfl w.heap.size rfl 25 (capv y) (0, 0) _ ?_ Try.underlying25 rfl cap_size ?_; exact HC8.out))
    obtain ⟨W9, hW9⟩ : ∃ W9, W9 = W7.alloc (.cells (capv y) 25) := ⟨_, rfl⟩
    have HB9 := Lib.hid (show Below w.heap.size w W9 by rw [hW9]; exact HB8.out)
    change Calls _ _ _ (W7.alloc (.cells (capv y) 25)) _
    rw [← hW9]
    clear hW9
    obtain ⟨Z, hZ⟩ : ∃ Z, txt (List.replicate 40 0) = Z := ⟨_, rfl⟩
    have hzz : Z.size = 40 := by rw [← hZ, txt_size, List.length_replicate]
    have HZ := Lib.hid hZ
    clear hZ
    refine (rep_any 0 40 (by decide) Z HZ.out _ rfl W9).mono ?_
    rintro e W10 ⟨rfl, b⟩
    have HB10 := Lib.hid (HB9.out.trans (b.mono HB9.out.size))
    clear b
    have i40 : (k : Int) ≤ ((S ++ Z).size : Int) := by rw [ByteArray.size_append]; omega
    have HT := Lib.hid (show dec ((S ++ Z).extract 0 k) = (.zero, 5) from dec_cut y HYM.out k hk40 HN.out _ (by rw [HS.out, HLL.out, HZ.out]))
    go_wp2_with fail
    refine (none_t _ (by rw [ByteArray.size_extract]; omega) 5 HT.out W10).mono ?_
    rintro e W11 ⟨rfl, b⟩
    have HB11 := Lib.hid (HB10.out.trans (b.mono HB10.out.size))
    go_wp2_with fail
    go_ret; exact ⟨rfl, HB11.out⟩

theorem own : ownKnob Try.prog.godebug = none := by kernel_rfl
theorem laidOut : laidOutB Try.prog = true := by kernel_rfl

set_option maxRecDepth 100000 in
theorem lifted (os : Os) (started : os.Started) (H : Type) (enc : TypeId × Value → H) :
    ReturnsInHanded {} Try.checked os 6 .any (Rows.capablePassedSpec.pre6 enc Try.prog Try.f6 Rows.capablePassedRow.domain false) (Rows.capablePassedSpec.post enc Try.prog Try.f6 false true false false) := by
  refine returnsInHanded_of_change (C := Try.checked) own started (by kernel_rfl) Try.func6
    (ChangeSpec.witness6 (enc := enc) (C := Try.checked) false ⟨#[], #[.agg #[.int .i64 0, .int .i64 0, .bool false, .bool false, .int .u64 0, .int .u64 0, .int .i64 0, .int .u16 0], .int .u8 0, .int .u8 0], []⟩ 8 (by kernel_rfl) (by kernel_rfl) (by kernel_rfl) (by kernel_rfl)) ?_
  intro W base args ds gs before hval0 hW hcnd _
  have hval : ∀ (j : Nat) t v, Try.f6.params[j]? = some t → args[j]? = some v → Value.okWide Try.prog W .any base t v := hval0
  have hW' := hW
  obtain ⟨p, q, hA0, hV, rfl, hfz, hnd⟩ := hW
  have hA : DataW.TrodAll enc Try.prog W 0 (fun _ => true) true Try.f6.params.toList args.toList ds p := hA0
  rw [Try.params6] at hA hval
  obtain ⟨v0, vs0, d0, ds0, p0, q0, hargs, rfl, rfl, h0, r0⟩ := trodAll_cons hA
  obtain ⟨v1, vs1, d1, ds1, p1, q1, rfl, rfl, rfl, h1, r1⟩ := trodAll_cons r0
  obtain ⟨v2, vs2, d2, ds2, p2, q2, rfl, rfl, rfl, h2, r2⟩ := trodAll_cons r1
  obtain ⟨rfl, rfl, rfl⟩ := trodAll_nil r2
  obtain rfl : args = #[v0, v1, v2] := by cases args; simp_all
  obtain ⟨rfl, rfl⟩ := trodVars_none hV
  have k0 := h0
  have lt0 : ∀ x ∈ p0, x.block < W.heap.size := by obtain ⟨m, hm⟩ := k0; exact DataW.trod_lt m _ _ _ hm
  obtain ⟨a0, rfl, o0⟩ := open_cap (hval 0 25 v0 rfl rfl) h0
  obtain ⟨a1, rfl, rfl, rfl, w1⟩ := open_int Try.underlying5 (hval 1 5 v1 rfl rfl) h1
  obtain ⟨a2, rfl, rfl, rfl, w2⟩ := open_int Try.underlying5 (hval 2 5 v2 rfl rfl) h2
  clear hA0 hval0
  simp only [List.append_nil] at hW'
  refine (walk a0 o0 a1 a2 (bounds_u8 w1) (bounds_u8 w2) W).mono fun e W' ⟨he, bel⟩ => ?_
  subst he
  exact ⟨_, rfl, _, _, _, [], _, [], hW', trodAll_mk1 (shut_bool Try.underlying4 _), (trodAll_cons_mk (Below.trod laidOut (by kernel_rfl) (of_decide_eq_true (by kernel_rfl)) k0 bel lt0) (trodAll_cons_mk (shut_int Try.underlying5 w1) (trodAll_cons_mk (shut_int Try.underlying5 w2) trodAll_mk0))), rfl, bel.frame _, fun h => by cases h⟩

theorem over : Rows.capablePassedRow.holds Try.pinned (OpenSpec.ofChange Rows.capablePassedSpec) :=
  OpenClaim.holds_of_wide 6 Try.f6 rfl rfl rfl rfl rfl rfl rfl ⟨rfl, rfl, rfl, rfl, rfl⟩ rfl rfl rfl rfl rfl (by kernel_rfl) Try.func6 (by kernel_rfl)
    (of_decide_eq_true (by kernel_rfl)) (by unfold Func.isWrapper; first | (rw [if_pos (by decide +kernel)]; kernel_rfl) | (rw [if_neg (by decide +kernel)]; exact ⟨rfl, rfl⟩))
    (fun os started H enc _ => lifted os started H enc)

theorem proved : Rows.CapablePassedSaid := over
#print axioms proved
end Go.Proofs.Ytpedbmnifjhaiaa.capablePassed
