/-
  CtrlBack returns true for all options. No conditions.
-/
import Derived.Test.YtbimdlcgjpeheaaCtrlWorks
import Derived.Test.YtbimdlcgjpeheaaCtrlOpen
import Derived.WalkKit
import Derived.ProofKit
import Derived.OpenShut
import Derived.ShutString
import Derived.ChangeOld
import Derived.Below
import Derived.SizedLaws
namespace Go.Proofs.Ytbimdlcgjpeheaa.ctrlBack
open Go.ChangeShapes Go.WideShapes Go.ChangeAt Go.RowKit
open Go.ChangeMaps (open_string shut_string)
set_option linter.unusedVariables false

set_option maxHeartbeats 4000000 in
set_option maxRecDepth 100000 in
theorem walk (p : Bool) (n : Nat) (hn : n ≤ 18446744073709551615) (f r : Int) (w : World) :
    Calls Try.prog 5 #[.agg (prv p), .int .u64 (n : Int), .agg (rsv f r)] w fun e w' => e = .returned (.bool true) ∧ Below w.heap.size w w' := by
  obtain ⟨A, hA⟩ : ∃ A, A = prioT p := ⟨_, rfl⟩
  obtain ⟨B, hB⟩ : ∃ B, B = numT 6 n := ⟨_, rfl⟩
  obtain ⟨C, hC⟩ : ∃ C, C = numT 7 n := ⟨_, rfl⟩
  have EA := Lib.hid (show encPV p = .tuple #[.string A, .int .i64 0] by rw [hA]; rfl)
  have EB := Lib.hid (show encNV 6 n = .tuple #[.string B, .int .i64 0] by rw [hB]; rfl)
  have EC := Lib.hid (show encNV 7 n = .tuple #[.string C, .int .i64 0] by rw [hC]; rfl)
  have DA := Lib.hid (show decPV A = .tuple #[.agg (prv p), .int .i64 0] by rw [hA]; unfold decPV; rw [prio_wrong, prio_got])
  have DB := Lib.hid (show decFV B = .tuple #[.agg (nuv n), .int .i64 0] by rw [hB]; unfold decFV; rw [num_wrong _ _ (by decide), num_got _ _ (by decide) hn])
  have DC := Lib.hid (show decSV C = .tuple #[.agg (nuv n), .int .i64 0] by rw [hC]; unfold decSV; rw [num_wrong _ _ (by decide), num_got _ _ (by decide) hn])
  have HZ := Lib.hid (show A.size ≤ 10 ∧ B.size ≤ 10 ∧ C.size ≤ 10 by rw [hA, hB, hC, prioT_size, numT_size, numT_size]; omega)
  have HE := Lib.hid (fun W => pr_equal p p true (by simp) W)
  have HN := Lib.hid hn
  obtain ⟨bp, hbp⟩ : ∃ b, b = w.heap.size := ⟨_, rfl⟩
  obtain ⟨bx, hbx⟩ : ∃ b, b = w.heap.size + 1 := ⟨_, rfl⟩
  obtain ⟨w0, hw0⟩ : ∃ V, V = (w.alloc (.cells (prv p) 23)).alloc (.cells (rsv f r) 26) := ⟨_, rfl⟩
  have Hp_0 := Lib.hid (show Blk w0 bp 23 (prv p) by rw [hw0, hbp]; exact (Blk.new _ _ _).alloc _)
  have Hx_0 := Lib.hid (show Blk w0 bx 26 (rsv f r) by
    rw [hw0, hbx]
    have := Blk.new (w.alloc (.cells (prv p) 23)) 26 (rsv f r)
    simpa using this)
  have HB_0 := Lib.hid (show Below w.heap.size w w0 by rw [hw0]; exact ((Below.refl _ w).alloc (Nat.le_refl _) _).alloc (by simp) _)
  have HW0 := Lib.hid hw0
  have HE0 := Lib.hid hbp
  have HE1 := Lib.hid hbx
  clear hA hB hC hn hbp hbx hw0
  go_enter Try.func5, Try.ntmps5
  go_upto_region 1 with fail
  rw [← HW0.out, ← HE1.out, ← HE0.out]
  clear HW0
  go_wp2_with fail
  refine (works_t w0).mono ?_
  rintro e U1 ⟨rfl, b⟩
  have HB_1 := Lib.hid (HB_0.out.trans (b.mono HB_0.out.size))
  have Hp_1 := Lib.hid (Hp_0.out.below b Hp_0.out.lt)
  have Hx_1 := Lib.hid (Hx_0.out.below b Hx_0.out.lt)
  clear b
  go_wp2_with (refine wpList_load_row_w (by rfl) 23 _ rfl bp rfl 23 (prv p) (0, 0) _ ?_ Try.underlying23 rfl pr_size ?_; exact Hp_1.out)
  refine (EncodePrio_any p U1).mono ?_
  rintro e U2 ⟨rfl, b⟩
  rw [EA.out]
  have HB_2 := Lib.hid (HB_1.out.trans (b.mono HB_1.out.size))
  have Hp_2 := Lib.hid (Hp_1.out.below b Hp_1.out.lt)
  have Hx_2 := Lib.hid (Hx_1.out.below b Hx_1.out.lt)
  clear b
  go_wp2_with fail
  refine (EncodeFail_any n HN.out U2).mono ?_
  rintro e U3 ⟨rfl, b⟩
  rw [EB.out]
  have HB_3 := Lib.hid (HB_2.out.trans (b.mono HB_2.out.size))
  have Hp_3 := Lib.hid (Hp_2.out.below b Hp_2.out.lt)
  have Hx_3 := Lib.hid (Hx_2.out.below b Hx_2.out.lt)
  clear b
  go_wp2_with fail
  refine (EncodeFast_any n HN.out U3).mono ?_
  rintro e U4 ⟨rfl, b⟩
  rw [EC.out]
  have HB_4 := Lib.hid (HB_3.out.trans (b.mono HB_3.out.size))
  have Hp_4 := Lib.hid (Hp_3.out.below b Hp_3.out.lt)
  have Hx_4 := Lib.hid (Hx_3.out.below b Hx_3.out.lt)
  clear b
  go_wp2_with fail
  refine (DecodePrio_any A (by have := HZ.out; omega) U4).mono ?_
  rintro e U5 ⟨rfl, b⟩
  rw [DA.out]
  have HB_5 := Lib.hid (HB_4.out.trans (b.mono HB_4.out.size))
  have Hp_5 := Lib.hid (Hp_4.out.below b Hp_4.out.lt)
  have Hx_5 := Lib.hid (Hx_4.out.below b Hx_4.out.lt)
  clear b
  obtain ⟨g6, hg⟩ : ∃ g, g = U5.heap.size := ⟨_, rfl⟩
  obtain ⟨V6, hV⟩ : ∃ V, V = U5.alloc (.cells (prv p) 23) := ⟨_, rfl⟩
  have HB_6 := Lib.hid (show Below w.heap.size w V6 by rw [hV]; exact HB_5.out.alloc HB_5.out.size _)
  have Hp_6 := Lib.hid (show Blk V6 bp 23 (prv p) by rw [hV]; exact Hp_5.out.alloc _)
  have Hx_6 := Lib.hid (show Blk V6 bx 26 (rsv f r) by rw [hV]; exact Hx_5.out.alloc _)
  have Ha_6 := Lib.hid (show Blk V6 g6 23 (prv p) by rw [hV, hg]; exact Blk.new _ _ _)
  have HV := Lib.hid hV
  have HGG := Lib.hid hg
  clear hV hg
  go_upto_region 7 with fail
  rw [← HV.out, ← HGG.out]
  clear HV HGG
  go_wp2_with fail
  refine (DecodeFail_any B (by have := HZ.out; omega) V6).mono ?_
  rintro e U7 ⟨rfl, b⟩
  rw [DB.out]
  have HB_7 := Lib.hid (HB_6.out.trans (b.mono HB_6.out.size))
  have Hp_7 := Lib.hid (Hp_6.out.below b Hp_6.out.lt)
  have Hx_7 := Lib.hid (Hx_6.out.below b Hx_6.out.lt)
  have Ha_7 := Lib.hid (Ha_6.out.below b Ha_6.out.lt)
  clear b
  obtain ⟨g8, hg⟩ : ∃ g, g = U7.heap.size := ⟨_, rfl⟩
  obtain ⟨V8, hV⟩ : ∃ V, V = U7.alloc (.cells (nuv n) 32) := ⟨_, rfl⟩
  have HB_8 := Lib.hid (show Below w.heap.size w V8 by rw [hV]; exact HB_7.out.alloc HB_7.out.size _)
  have Hp_8 := Lib.hid (show Blk V8 bp 23 (prv p) by rw [hV]; exact Hp_7.out.alloc _)
  have Hx_8 := Lib.hid (show Blk V8 bx 26 (rsv f r) by rw [hV]; exact Hx_7.out.alloc _)
  have Ha_8 := Lib.hid (show Blk V8 g6 23 (prv p) by rw [hV]; exact Ha_7.out.alloc _)
  have Hb_8 := Lib.hid (show Blk V8 g8 32 (nuv n) by rw [hV, hg]; exact Blk.new _ _ _)
  have HV := Lib.hid hV
  have HGG := Lib.hid hg
  clear hV hg
  go_upto_region 8 with fail
  rw [← HV.out, ← HGG.out]
  clear HV HGG
  go_wp2_with fail
  refine (DecodeFast_any C (by have := HZ.out; omega) V8).mono ?_
  rintro e U9 ⟨rfl, b⟩
  rw [DC.out]
  have HB_9 := Lib.hid (HB_8.out.trans (b.mono HB_8.out.size))
  have Hp_9 := Lib.hid (Hp_8.out.below b Hp_8.out.lt)
  have Hx_9 := Lib.hid (Hx_8.out.below b Hx_8.out.lt)
  have Ha_9 := Lib.hid (Ha_8.out.below b Ha_8.out.lt)
  have Hb_9 := Lib.hid (Hb_8.out.below b Hb_8.out.lt)
  clear b
  obtain ⟨g10, hg⟩ : ∃ g, g = U9.heap.size := ⟨_, rfl⟩
  obtain ⟨V10, hV⟩ : ∃ V, V = U9.alloc (.cells (nuv n) 35) := ⟨_, rfl⟩
  have HB_10 := Lib.hid (show Below w.heap.size w V10 by rw [hV]; exact HB_9.out.alloc HB_9.out.size _)
  have Hp_10 := Lib.hid (show Blk V10 bp 23 (prv p) by rw [hV]; exact Hp_9.out.alloc _)
  have Hx_10 := Lib.hid (show Blk V10 bx 26 (rsv f r) by rw [hV]; exact Hx_9.out.alloc _)
  have Ha_10 := Lib.hid (show Blk V10 g6 23 (prv p) by rw [hV]; exact Ha_9.out.alloc _)
  have Hb_10 := Lib.hid (show Blk V10 g8 32 (nuv n) by rw [hV]; exact Hb_9.out.alloc _)
  have Hc_10 := Lib.hid (show Blk V10 g10 35 (nuv n) by rw [hV, hg]; exact Blk.new _ _ _)
  have HV := Lib.hid hV
  have HGG := Lib.hid hg
  clear hV hg
  go_upto_region 9 with fail
  rw [← HV.out, ← HGG.out]
  clear HV HGG
  have c1 := Hb_10.out.cell 0
  simp only [List.getElem?_toArray, List.getElem?_cons_zero] at c1
  have c2 := Hc_10.out.cell 0
  simp only [List.getElem?_toArray, List.getElem?_cons_zero] at c2
  have he := HE.out
  go_wp2_with (first | (refine wpList_load_row_w (by rfl) 23 _ rfl g6 rfl 23 (prv p) (0, 0) _ ?_ Try.underlying23 rfl pr_size ?_; exact Ha_10.out) | (refine wpList_load_row_w (by rfl) 23 _ rfl bp rfl 23 (prv p) (0, 0) _ ?_ Try.underlying23 rfl pr_size ?_; exact Hp_10.out) | (refine wpList_load_row_w (by rfl) 26 _ rfl bx rfl 26 (rsv f r) (0, 0) _ ?_ Try.underlying26 rfl rs_size ?_; exact Hx_10.out))
  clear he c1 c2
  refine (EncodeRst_any f r V10).mono ?_
  rintro e U11 ⟨rfl, b⟩
  have HB_11 := Lib.hid (HB_10.out.trans (b.mono HB_10.out.size))
  have Hx_11 := Lib.hid (Hx_10.out.below b Hx_10.out.lt)
  clear b
  by_cases hm : May f r
  · obtain ⟨D, hD⟩ : ∃ D, D = rstT f.toNat r.toNat := ⟨_, rfl⟩
    have HD := Lib.hid (show encTV f r = .tuple #[.string D, .int .i64 0] by unfold encTV; rw [encT_t f r hm, hD])
    have DD := Lib.hid (show decRV D = .tuple #[.agg (rsv f r), .int .i64 0] by
      rw [hD]; unfold decRV
      rw [rst_wrong _ _ (by have := hm.1; omega), rst_gotF _ _ (by have := hm.1; omega), rst_gotR _ _ (by have := hm.1; omega) (by have := hm.2; omega), show ((f.toNat : Nat) : Int) = f by have := hm.1; omega, show ((r.toNat : Nat) : Int) = r by have := hm.2; omega])
    have hd : D.size = 2 := by rw [hD, rstT_size]
    have HD2 := Lib.hid hd
    clear hD hm
    rw [HD.out]
    go_wp2_with fail
    refine (DecodeRst_any D (by have := HD2.out; omega) U11).mono ?_
    rintro e U12 ⟨rfl, b⟩
    rw [DD.out]
    have HB_12 := Lib.hid (HB_11.out.trans (b.mono HB_11.out.size))
    have Hx_12 := Lib.hid (Hx_11.out.below b Hx_11.out.lt)
    clear b
    obtain ⟨g13, hg⟩ : ∃ g, g = U12.heap.size := ⟨_, rfl⟩
    obtain ⟨V13, hV⟩ : ∃ V, V = U12.alloc (.cells (rsv f r) 26) := ⟨_, rfl⟩
    have HB_13 := Lib.hid (show Below w.heap.size w V13 by rw [hV]; exact HB_12.out.alloc HB_12.out.size _)
    have Hx_13 := Lib.hid (show Blk V13 bx 26 (rsv f r) by rw [hV]; exact Hx_12.out.alloc _)
    have Hy_13 := Lib.hid (show Blk V13 g13 26 (rsv f r) by rw [hV, hg]; exact Blk.new _ _ _)
    have HV := Lib.hid hV
    have HGG := Lib.hid hg
    clear hV hg
    go_upto_region 15 with fail
    rw [← HV.out, ← HGG.out]
    clear HV HGG
    have he := fun W => rs_equal f r f r true (by simp) W
    have h2 : (D.size : Int) = 2 := by omega
    go_wp2_with (first | (refine wpList_load_row_w (by rfl) 26 _ rfl g13 rfl 26 (rsv f r) (0, 0) _ ?_ Try.underlying26 rfl rs_size ?_; exact Hy_13.out) | (refine wpList_load_row_w (by rfl) 26 _ rfl bx rfl 26 (rsv f r) (0, 0) _ ?_ Try.underlying26 rfl rs_size ?_; exact Hx_13.out))
    go_ret; exact ⟨rfl, HB_13.out⟩
  · have HD := Lib.hid (show encTV f r = .tuple #[.string ⟨#[]⟩, .int .i64 2] by unfold encTV; rw [encT_f f r hm])
    rw [HD.out]
    have c0 := Hx_11.out.cell 0
    simp only [List.getElem?_toArray, List.getElem?_cons_zero] at c0
    have c1 := Hx_11.out.cell 1
    simp only [List.getElem?_toArray, List.getElem?_cons_zero, List.getElem?_cons_succ] at c1
    by_cases h0 : f < 0
    · go_wp2
      go_ret; exact ⟨rfl, HB_11.out⟩
    by_cases h1 : 15 < f
    · go_wp2
      go_ret; exact ⟨rfl, HB_11.out⟩
    by_cases h2 : r < 0
    · go_wp2
      go_ret; exact ⟨rfl, HB_11.out⟩
    have h9 : 255 < r := by unfold May at hm; omega
    go_wp2
    go_ret; exact ⟨rfl, HB_11.out⟩

theorem own : ownKnob Try.prog.godebug = none := by kernel_rfl
theorem laidOut : laidOutB Try.prog = true := by kernel_rfl

set_option maxRecDepth 100000 in
theorem lifted (os : Os) (started : os.Started) (H : Type) (enc : TypeId × Value → H) :
    ReturnsInHanded {} Try.checked os 5 .any (Rows.ctrlBackSpec.pre6 enc Try.prog Try.f5 Rows.ctrlBackRow.domain false) (Rows.ctrlBackSpec.post enc Try.prog Try.f5 false true false false) := by
  refine returnsInHanded_of_change (C := Try.checked) own started (by kernel_rfl) Try.func5
    (ChangeSpec.witness6 (enc := enc) (C := Try.checked) false ⟨#[], #[.agg #[.bool false], .int .u64 0, .agg #[.int .i64 0, .int .i64 0]], []⟩ 8 (by kernel_rfl) (by kernel_rfl) (by kernel_rfl) (by kernel_rfl)) ?_
  intro W base args ds gs before hval0 hW hcnd _
  have hval : ∀ (j : Nat) t v, Try.f5.params[j]? = some t → args[j]? = some v → Value.okWide Try.prog W .any base t v := hval0
  have hW' := hW
  obtain ⟨p, q, hA0, hV, rfl, hfz, hnd⟩ := hW
  have hA : DataW.TrodAll enc Try.prog W 0 (fun _ => true) true Try.f5.params.toList args.toList ds p := hA0
  rw [Try.params5] at hA hval
  obtain ⟨v0, vs0, d0, ds0, p0, q0, hargs, rfl, rfl, h0, r0⟩ := trodAll_cons hA
  obtain ⟨v1, vs1, d1, ds1, p1, q1, rfl, rfl, rfl, h1, r1⟩ := trodAll_cons r0
  obtain ⟨v2, vs2, d2, ds2, p2, q2, rfl, rfl, rfl, h2, r2⟩ := trodAll_cons r1
  obtain ⟨rfl, rfl, rfl⟩ := trodAll_nil r2
  obtain rfl : args = #[v0, v1, v2] := by cases args; simp_all
  obtain ⟨rfl, rfl⟩ := trodVars_none hV
  have k0 := h0
  have lt0 : ∀ x ∈ p0, x.block < W.heap.size := by obtain ⟨m, hm⟩ := k0; exact DataW.trod_lt m _ _ _ hm
  obtain ⟨p0', rfl⟩ := open_prio (hval 0 23 v0 rfl rfl) h0
  obtain ⟨a1, rfl, rfl, rfl, w1⟩ := open_int Try.underlying24 (hval 1 24 v1 rfl rfl) h1
  have k2 := h2
  have lt2 : ∀ x ∈ p2, x.block < W.heap.size := by obtain ⟨m, hm⟩ := k2; exact DataW.trod_lt m _ _ _ hm
  obtain ⟨f, r, rfl, hf, hr⟩ := open_rst (hval 2 26 v2 rfl rfl) h2
  clear hA0 hval0
  simp only [List.append_nil] at hW'
  obtain ⟨l1, u1⟩ := bounds_u64 w1
  obtain ⟨n, rfl⟩ := Int.eq_ofNat_of_zero_le l1
  have hn : n ≤ 18446744073709551615 := by omega
  refine (walk p0' n hn f r W).mono fun e W' ⟨he, bel⟩ => ?_
  subst he
  exact ⟨_, rfl, _, _, _, [], _, [], hW', trodAll_mk1 (shut_bool Try.underlying4 _), (trodAll_cons_mk (Below.trod laidOut (by kernel_rfl) (of_decide_eq_true (by kernel_rfl)) k0 bel lt0) (trodAll_cons_mk (shut_int Try.underlying24 w1) (trodAll_cons_mk (Below.trod laidOut (by kernel_rfl) (of_decide_eq_true (by kernel_rfl)) k2 bel lt2) trodAll_mk0))), rfl, bel.frame _, fun h => by cases h⟩

theorem over : Rows.ctrlBackRow.holds Try.pinned (OpenSpec.ofChange Rows.ctrlBackSpec) :=
  OpenClaim.holds_of_wide 5 Try.f5 rfl rfl rfl rfl rfl rfl rfl ⟨rfl, rfl, rfl, rfl, rfl⟩ rfl rfl rfl rfl rfl (by kernel_rfl) Try.func5 (by kernel_rfl)
    (of_decide_eq_true (by kernel_rfl)) (by unfold Func.isWrapper; first | (rw [if_pos (by decide +kernel)]; kernel_rfl) | (rw [if_neg (by decide +kernel)]; exact ⟨rfl, rfl⟩))
    (fun os started H enc _ => lifted os started H enc)

theorem proved : Rows.CtrlBackSaid := over
#print axioms proved
end Go.Proofs.Ytbimdlcgjpeheaa.ctrlBack
