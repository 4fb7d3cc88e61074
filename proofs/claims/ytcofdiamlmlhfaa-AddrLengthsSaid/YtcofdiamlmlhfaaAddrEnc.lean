/-
  What EncodeAdd and EncodeRemove of package addr answer, each by its walk.
-/
import Derived.Test.YtcofdiamlmlhfaaAddrValid
namespace Go.Proofs.Ytcofdiamlmlhfaa
open Go.ChangeShapes Go.WideShapes Go.ChangeAt Go.RowKit
set_option linter.unusedVariables false

/-- What 'EncodeAdd' answers. -/
def encV (x : Ad) : Value := .tuple #[.string x.enc.1, .int .i64 x.enc.2]
theorem encV_t (x : Ad) (h : x.May) : encV x = .tuple #[.string (txt x.body), .int .i64 0] := by unfold encV; rw [Ad.enc_t x h]
theorem encV_f (x : Ad) (h : ¬ x.May) : encV x = .tuple #[.string ⟨#[]⟩, .int .i64 2] := by unfold encV; rw [Ad.enc_f x h]
/-- What 'EncodeRemove' answers. -/
def encRV (s : ByteArray) : Value := .tuple #[.string (encR s).1, .int .i64 (encR s).2]
theorem encRV_t (s : ByteArray) (h : 1 ≤ s.size ∧ s.size ≤ 37) : encRV s = .tuple #[.string (txt (64 :: s.data.toList)), .int .i64 0] := by unfold encRV; rw [encR_t s h]
theorem encRV_f (s : ByteArray) (h : ¬ (1 ≤ s.size ∧ s.size ≤ 37)) : encRV s = .tuple #[.string ⟨#[]⟩, .int .i64 2] := by unfold encRV; rw [encR_f s h]
theorem ret_two {P : Program} {fn : Func} {R : Ending → World → Prop} {a : Act} {w : World} (t u : Tmp) (v z : Value) (hf : fn.results = #[.tmp t, .tmp u]) (ht : a.tmps.getD t undef = v) (hu : a.tmps.getD u undef = z) (hd : a.defers = []) (hR : R (.returned (.tuple #[v, z])) w) : bodyPost P fn R .ret a w :=
  bodyPost_ret (by rw [results_tmp2 hf, ht, hu]) hd hR
theorem body_parts (x : Ad) (i : Nat) (hi : x.id = (i : Int)) : (txt x.body).data.toList = ([txt (be 1 (fst x.echo)), txt (be 1 i), x.ip, txt x.ports, x.mac].map (·.data.toList)).flatten := by
  obtain ⟨echo, id, ip, hp, port, mac⟩ := x
  have hi : id = (i : Int) := hi
  subst hi
  simp [txt_list, Ad.body, Ad.rest, be]
theorem body_le (x : Ad) (h : x.May) : (txt x.body).size ≤ 28 := by rw [txt_size, x.body_size]; exact x.size_le h
set_option maxHeartbeats 1000000 in
set_option maxRecDepth 100000 in
theorem EncodeAdd_t (x : Ad) (hm : x.May) (w : World) :
    Calls Try.prog 9 #[.agg (adv x)] w fun e w' => e = .returned (encV x) ∧ Below w.heap.size w w' := by
  rw [encV_t x hm]
  obtain ⟨T, hT⟩ : ∃ T, T = txt x.body := ⟨_, rfl⟩
  rw [← hT]
  have i0 := hm.1
  obtain ⟨i, hi⟩ : ∃ i : Nat, x.id = (i : Int) := ⟨x.id.toNat, by omega⟩
  have h255 : i ≤ 255 := by omega
  obtain ⟨A, hA⟩ : ∃ A, A = txt (be 1 (fst x.echo)) := ⟨_, rfl⟩
  obtain ⟨C, hC⟩ : ∃ C, C = txt (be 1 i) := ⟨_, rfl⟩
  obtain ⟨P, hP⟩ : ∃ P, P = txt x.ports := ⟨_, rfl⟩
  have HTT := Lib.hid (show T.data.toList = ([A, C, x.ip, P, x.mac].map (·.data.toList)).flatten by rw [hT, hA, hC, hP]; exact body_parts x i hi)
  have HTS := Lib.hid (show T.size ≤ 28 by rw [hT]; exact body_le x hm)
  have HA := Lib.hid (show (⟨#[]⟩ : ByteArray) ++ ⟨(be 1 (fst x.echo)).toArray⟩ = A by rw [none_and, hA]; rfl)
  have HCC := Lib.hid (show (⟨#[]⟩ : ByteArray) ++ ⟨(be 1 i).toArray⟩ = C by rw [none_and, hC]; rfl)
  have HP := Lib.hid hP
  have HPT := Lib.hid hm.2.2.1
  have HI := Lib.hid (show x.id % 256 = (i : Int) by omega)
  have HI2 := Lib.hid h255
  have HM := Lib.hid hm
  obtain ⟨w0, hw0⟩ : ∃ w0, w0 = w.alloc (.cells (adv x) 23) := ⟨_, rfl⟩
  obtain ⟨b0, hb0⟩ : ∃ b0, b0 = w.heap.size := ⟨_, rfl⟩
  have hc0 : Blk w0 b0 23 (adv x) := by rw [hw0, hb0]; exact Blk.new _ _ _
  have HC0 := Lib.hid hc0
  have HBW := Lib.hid (show Below w.heap.size w w0 by rw [hw0]; exact (Below.refl _ w).alloc (Nat.le_refl _) _)
  have HW0 := Lib.hid hw0
  have HB0 := Lib.hid hb0
  have HC1 := hc0
  rw [hw0, hb0] at HC1
  have HCC0 := Lib.hid HC1
  clear hT hi hA hC hP hw0 hb0 hc0 i0 HC1 hm h255
  go_enter Try.func9, Try.ntmps9
  go_wp2_with (refine wpList_load_row rfl 23 _ rfl w.heap.size rfl 23 (adv x) (0, 0) _ ?_ Try.underlying23 rfl ad_size ?_; exact HCC0.out)
  rw [← HW0.out, ← HB0.out]
  refine (validAdd_any x _).mono ?_
  rintro e V ⟨rfl, bv⟩
  rw [decide_eq_true HM.out]
  have HC := Lib.hid (HC0.out.below bv HC0.out.lt)
  have HBV := Lib.hid (HBW.out.trans (bv.mono HBW.out.size))
  clear bv HC0 HBW HW0 HCC0
  go_upto_region 3 with fail
  have B0 : Below V.heap.size V V.drew := (Below.refl _ V).drew
  refine held_start (fun W => Below V.heap.size V W) (by kernel_rfl) (n := 17) rfl ?_
  obtain ⟨W0, hW0⟩ : ∃ W0, W0 = V.drew := ⟨_, rfl⟩
  rw [← hW0] at B0 ⊢
  clear hW0
  refine held_free 0 (.agg (adv x)) rfl (by kernel_rfl) (by kernel_rfl) (by kernel_rfl) (by kernel_rfl) B0 (fun W b => exec_row_ 23 (.tmp 1) (by kernel_rfl) b0 (by kernel_rfl) 23 _ (0, 0) _ (HC.out.below b HC.out.lt) Try.underlying23 rfl ad_size) ?_
  refine held_free 3 (.pointer (some ⟨b0, 1, none⟩)) rfl (by kernel_rfl) (by kernel_rfl) (by kernel_rfl) (by kernel_rfl) B0 (fun _ _ => ex_field (v := .pointer (some ⟨b0, 0, none⟩)) 23 (.tmp 1) 1 (by kernel_rfl) (by kernel_rfl) (by kernel_rfl)) ?_
  refine held_free 4 (.int .i64 x.id) rfl (by kernel_rfl) (by kernel_rfl) (by kernel_rfl) (by kernel_rfl) B0 (fun W b => ex_load 3 (.tmp 10) (by kernel_rfl) ⟨b0, 1, none⟩ (by kernel_rfl) (by kernel_rfl) ((HC.out.below b HC.out.lt).cell 1)) ?_
  refine held_free 5 (.int .u8 (i : Int)) rfl (by kernel_rfl) (by kernel_rfl) (by kernel_rfl) (by kernel_rfl) B0 (fun W _ => ex_convert_to (v := .int .i64 x.id) 3 5 (.tmp 11) (by kernel_rfl) (by kernel_rfl) (conv_i64_u8 x.id i HI.out W)) ?_
  refine held_free 7 (.pointer (some ⟨b0, 2, none⟩)) rfl (by kernel_rfl) (by kernel_rfl) (by kernel_rfl) (by kernel_rfl) B0 (fun _ _ => ex_field (v := .pointer (some ⟨b0, 0, none⟩)) 23 (.tmp 1) 2 (by kernel_rfl) (by kernel_rfl) (by kernel_rfl)) ?_
  refine held_free 8 (.string x.ip) rfl (by kernel_rfl) (by kernel_rfl) (by kernel_rfl) (by kernel_rfl) B0 (fun W b => ex_load 9 (.tmp 14) (by kernel_rfl) ⟨b0, 2, none⟩ (by kernel_rfl) (by kernel_rfl) ((HC.out.below b HC.out.lt).cell 2)) ?_
  refine held_free 9 (.agg (adv x)) rfl (by kernel_rfl) (by kernel_rfl) (by kernel_rfl) (by kernel_rfl) B0 (fun W b => exec_row_ 23 (.tmp 1) (by kernel_rfl) b0 (by kernel_rfl) 23 _ (0, 0) _ (HC.out.below b HC.out.lt) Try.underlying23 rfl ad_size) ?_
  refine held_free 11 (.pointer (some ⟨b0, 5, none⟩)) rfl (by kernel_rfl) (by kernel_rfl) (by kernel_rfl) (by kernel_rfl) B0 (fun _ _ => ex_field (v := .pointer (some ⟨b0, 0, none⟩)) 23 (.tmp 1) 5 (by kernel_rfl) (by kernel_rfl) (by kernel_rfl)) ?_
  refine held_free 12 (.string x.mac) rfl (by kernel_rfl) (by kernel_rfl) (by kernel_rfl) (by kernel_rfl) B0 (fun W b => ex_load 9 (.tmp 18) (by kernel_rfl) ⟨b0, 5, none⟩ (by kernel_rfl) (by kernel_rfl) ((HC.out.below b HC.out.lt).cell 5)) ?_
  refine held_call 1 rfl (by kernel_rfl) (by kernel_rfl) (by kernel_rfl) (firstOf_any x _) (fun w' h => bel_in B0 h) ?_
  intro W1 hW1
  have B1 := bel_in B0 hW1
  clear hW1 B0
  refine held_call 2 rfl (by kernel_rfl) (by kernel_rfl) (by kernel_rfl) (answer (Put8_any ⟨#[]⟩ (fst x.echo) _ (by decide) (fst_le _)) (congrArg Value.string HA.out)) (fun w' h => bel_in B1 h) ?_
  intro W2 hW2
  have B2 := bel_in B1 hW2
  clear hW2 B1
  refine held_call 6 rfl (by kernel_rfl) (by kernel_rfl) (by kernel_rfl) (answer (Put8_any ⟨#[]⟩ i _ (by decide) HI2.out) (congrArg Value.string HCC.out)) (fun w' h => bel_in B2 h) ?_
  intro W3 hW3
  have B3 := bel_in B2 hW3
  clear hW3 B2
  refine held_call 10 rfl (by kernel_rfl) (by kernel_rfl) (by kernel_rfl) (portOf_any x HPT.out P HP.out _) (fun w' h => bel_in B3 h) ?_
  intro W4 hW4
  have B4 := bel_in B3 hW4
  clear hW4 B3
  obtain ⟨W5, hW5⟩ : ∃ w', w' = W4.alloc (.cells ([A, C, x.ip, P, x.mac].map Value.string).toArray 9) := ⟨_, rfl⟩
  have NB : Blk W5 W4.heap.size 9 ([A, C, x.ip, P, x.mac].map Value.string).toArray := by rw [hW5]; exact Blk.new _ _ _
  have B5 : Below V.heap.size V W5 := by rw [hW5]; exact B4.alloc B4.size _
  refine held_lone (v := .slice (some ⟨W4.heap.size, 0, none⟩) 5 5) (w' := W5) 13 rfl (by kernel_rfl) (by kernel_rfl) (by rw [hW5]; exact ex_build5 (.tmp 9) (.tmp 13) (.tmp 15) (.tmp 17) (.tmp 19) (by kernel_rfl) A C x.ip P x.mac (by kernel_rfl) (by kernel_rfl) (by kernel_rfl) (by kernel_rfl) (by kernel_rfl)) B5 ?_
  clear hW5
  refine held_call 14 rfl (by kernel_rfl) (by kernel_rfl) (by kernel_rfl) (concat_any [A, C, x.ip, P, x.mac] T HTT.out _ 5 rfl _ NB (by simp) (by have := HTS.out; omega)) (fun w' h => bel_in B5 h) ?_
  intro W6 hW6
  have B6 := bel_in B5 hW6
  clear hW6 B5
  refine held_free 15 (.string T) rfl (by kernel_rfl) (by kernel_rfl) (by kernel_rfl) (by kernel_rfl) B6 (fun _ _ => by kernel_rfl) ?_
  refine held_free 16 (.int .i64 0) rfl (by kernel_rfl) (by kernel_rfl) (by kernel_rfl) (by kernel_rfl) B6 (fun _ _ => by kernel_rfl) ?_
  refine held_end (by kernel_rfl) ?_
  go_wp2_with fail
  exact ret_two 2 3 (.string T) (.int .i64 0) (by kernel_rfl) (by kernel_rfl) (by kernel_rfl) (by kernel_rfl) ⟨rfl, by have q := HBV.out.trans (B6.mono HBV.out.size); first | exact q | (rw [HB0.out]; exact q)⟩
theorem EncodeAdd_f (x : Ad) (hm : ¬ x.May) (w : World) :
    Calls Try.prog 9 #[.agg (adv x)] w fun e w' => e = .returned (encV x) ∧ Below w.heap.size w w' := by
  rw [encV_f x hm]
  have HC := Lib.hid (Blk.new w 23 (adv x))
  have HB := Lib.hid ((Below.refl _ w).alloc (Nat.le_refl _) (.cells (adv x) 23))
  have HM := Lib.hid hm
  clear hm
  go_enter Try.func9, Try.ntmps9
  go_wp2_with (refine wpList_load_row rfl 23 _ rfl w.heap.size rfl 23 (adv x) (0, 0) _ ?_ Try.underlying23 rfl ad_size ?_; exact HC.out)
  refine (validAdd_any x _).mono ?_
  rintro e V ⟨rfl, bv⟩
  rw [decide_eq_false HM.out]
  have HBV := Lib.hid (HB.out.trans (bv.mono HB.out.size))
  clear bv
  go_wp2_with fail
  exact ret_two 2 3 (.string ⟨#[]⟩) (.int .i64 2) rfl rfl rfl rfl ⟨rfl, HBV.out⟩
theorem EncodeAdd_any (x : Ad) (w : World) :
    Calls Try.prog 9 #[.agg (adv x)] w fun e w' => e = .returned (encV x) ∧ Below w.heap.size w w' := by
  by_cases hm : x.May
  · exact EncodeAdd_t x hm w
  · exact EncodeAdd_f x hm w
set_option maxHeartbeats 1000000 in
set_option maxRecDepth 100000 in
theorem EncodeRemove_t (s : ByteArray) (hm : 1 ≤ s.size ∧ s.size ≤ 37) (w : World) :
    Calls Try.prog 11 #[.agg (rmv s)] w fun e w' => e = .returned (encRV s) ∧ Below w.heap.size w w' := by
  rw [encRV_t s hm]
  obtain ⟨T, hT⟩ : ∃ T, T = txt (64 :: s.data.toList) := ⟨_, rfl⟩
  rw [← hT]
  obtain ⟨A, hA⟩ : ∃ A, A = txt [64] := ⟨_, rfl⟩
  have HTT := Lib.hid (show T.data.toList = ([A, s].map (·.data.toList)).flatten by rw [hT, hA]; simp [txt_list])
  have HTS := Lib.hid (show T.size ≤ 38 by rw [hT, one_size, len_data]; omega)
  have HA := Lib.hid (show (⟨#[]⟩ : ByteArray) ++ ⟨(be 1 64).toArray⟩ = A by rw [none_and, hA]; rfl)
  have HM := Lib.hid hm
  obtain ⟨w0, hw0⟩ : ∃ w0, w0 = w.alloc (.cells (rmv s) 29) := ⟨_, rfl⟩
  obtain ⟨b0, hb0⟩ : ∃ b0, b0 = w.heap.size := ⟨_, rfl⟩
  have hc0 : Blk w0 b0 29 (rmv s) := by rw [hw0, hb0]; exact Blk.new _ _ _
  have HC0 := Lib.hid hc0
  have HBW := Lib.hid (show Below w.heap.size w w0 by rw [hw0]; exact (Below.refl _ w).alloc (Nat.le_refl _) _)
  have HW0 := Lib.hid hw0
  have HB0 := Lib.hid hb0
  have HC1 := hc0
  rw [hw0, hb0] at HC1
  have HCC0 := Lib.hid HC1
  clear hT hA hw0 hb0 hc0 HC1 hm
  go_enter Try.func11, Try.ntmps11
  go_wp2_with (refine wpList_load_row rfl 29 _ rfl w.heap.size rfl 29 (rmv s) (0, 0) _ ?_ Try.underlying29 rfl rm_size ?_; exact HCC0.out)
  rw [← HW0.out, ← HB0.out]
  refine (validRemove_any s _ (by have := HM.out; omega)).mono ?_
  rintro e V ⟨rfl, bv⟩
  rw [decide_eq_true HM.out]
  have HC := Lib.hid (HC0.out.below bv HC0.out.lt)
  have HBV := Lib.hid (HBW.out.trans (bv.mono HBW.out.size))
  clear bv HC0 HBW HW0 HCC0
  go_upto_region 3 with fail
  have B0 : Below V.heap.size V V.drew := (Below.refl _ V).drew
  refine held_start (fun W => Below V.heap.size V W) (by kernel_rfl) (n := 7) rfl ?_
  obtain ⟨W0, hW0⟩ : ∃ W0, W0 = V.drew := ⟨_, rfl⟩
  rw [← hW0] at B0 ⊢
  clear hW0
  refine held_free 1 (.pointer (some ⟨b0, 0, none⟩)) rfl (by kernel_rfl) (by kernel_rfl) (by kernel_rfl) (by kernel_rfl) B0 (fun _ _ => ex_field (v := .pointer (some ⟨b0, 0, none⟩)) 29 (.tmp 1) 0 (by kernel_rfl) (by kernel_rfl) (by kernel_rfl)) ?_
  refine held_free 2 (.string s) rfl (by kernel_rfl) (by kernel_rfl) (by kernel_rfl) (by kernel_rfl) B0 (fun W b => ex_load 9 (.tmp 8) (by kernel_rfl) ⟨b0, 0, none⟩ (by kernel_rfl) (by kernel_rfl) ((HC.out.below b HC.out.lt).cell 0)) ?_
  refine held_call 0 rfl (by kernel_rfl) (by kernel_rfl) (by kernel_rfl) (answer (Put8_any ⟨#[]⟩ 64 _ (by decide) (by decide)) (congrArg Value.string HA.out)) (fun w' h => bel_in B0 h) ?_
  intro W1 hW1
  have B1 := bel_in B0 hW1
  clear hW1 B0
  obtain ⟨W2, hW2⟩ : ∃ w', w' = W1.alloc (.cells ([A, s].map Value.string).toArray 9) := ⟨_, rfl⟩
  have NB : Blk W2 W1.heap.size 9 ([A, s].map Value.string).toArray := by rw [hW2]; exact Blk.new _ _ _
  have B2 : Below V.heap.size V W2 := by rw [hW2]; exact B1.alloc B1.size _
  refine held_lone (v := .slice (some ⟨W1.heap.size, 0, none⟩) 2 2) (w' := W2) 3 rfl (by kernel_rfl) (by kernel_rfl) (by rw [hW2]; exact ex_build2 (.tmp 7) (.tmp 9) (by kernel_rfl) A s (by kernel_rfl) (by kernel_rfl)) B2 ?_
  clear hW2
  refine held_call 4 rfl (by kernel_rfl) (by kernel_rfl) (by kernel_rfl) (concat_any [A, s] T HTT.out _ 2 rfl _ NB (by simp) (by have := HTS.out; omega)) (fun w' h => bel_in B2 h) ?_
  intro W3 hW3
  have B3 := bel_in B2 hW3
  clear hW3 B2
  refine held_free 5 (.string T) rfl (by kernel_rfl) (by kernel_rfl) (by kernel_rfl) (by kernel_rfl) B3 (fun _ _ => by kernel_rfl) ?_
  refine held_free 6 (.int .i64 0) rfl (by kernel_rfl) (by kernel_rfl) (by kernel_rfl) (by kernel_rfl) B3 (fun _ _ => by kernel_rfl) ?_
  refine held_end (by kernel_rfl) ?_
  go_wp2_with fail
  exact ret_two 2 3 (.string T) (.int .i64 0) (by kernel_rfl) (by kernel_rfl) (by kernel_rfl) (by kernel_rfl) ⟨rfl, by have q := HBV.out.trans (B3.mono HBV.out.size); first | exact q | (rw [HB0.out]; exact q)⟩
theorem EncodeRemove_f (s : ByteArray) (hs : s.size ≤ 9223372036854775807) (hm : ¬ (1 ≤ s.size ∧ s.size ≤ 37)) (w : World) :
    Calls Try.prog 11 #[.agg (rmv s)] w fun e w' => e = .returned (encRV s) ∧ Below w.heap.size w w' := by
  rw [encRV_f s hm]
  have HC := Lib.hid (Blk.new w 29 (rmv s))
  have HB := Lib.hid ((Below.refl _ w).alloc (Nat.le_refl _) (.cells (rmv s) 29))
  have HM := Lib.hid hm
  clear hm
  go_enter Try.func11, Try.ntmps11
  go_wp2_with (refine wpList_load_row rfl 29 _ rfl w.heap.size rfl 29 (rmv s) (0, 0) _ ?_ Try.underlying29 rfl rm_size ?_; exact HC.out)
  refine (validRemove_any s _ hs).mono ?_
  rintro e V ⟨rfl, bv⟩
  rw [decide_eq_false HM.out]
  have HBV := Lib.hid (HB.out.trans (bv.mono HB.out.size))
  clear bv
  go_wp2_with fail
  exact ret_two 2 3 (.string ⟨#[]⟩) (.int .i64 2) rfl rfl rfl rfl ⟨rfl, HBV.out⟩
theorem EncodeRemove_any (s : ByteArray) (hs : s.size ≤ 9223372036854775807) (w : World) :
    Calls Try.prog 11 #[.agg (rmv s)] w fun e w' => e = .returned (encRV s) ∧ Below w.heap.size w w' := by
  by_cases hm : 1 ≤ s.size ∧ s.size ≤ 37
  · exact EncodeRemove_t s hm w
  · exact EncodeRemove_f s hs hm w
end Go.Proofs.Ytcofdiamlmlhfaa
