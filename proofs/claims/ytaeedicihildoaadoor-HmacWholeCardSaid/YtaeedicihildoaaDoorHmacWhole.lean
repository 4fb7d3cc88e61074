/-
  The first n and the last 32 - n bytes are the digest; what is asked below and above that is none, and all (statement HmacWhole, promises P7.2, P7.3), of all digests and numbers, without condition but the tables' own initial values, which the card ties to the program's text.
-/
import Derived.Test.YtaeedicihildoaaDoorDigOpen
import Derived.Test.YtaeedicihildoaaDoorHmacWorks
import Derived.Test.YtaeedicihildoaaDoorTextOps
namespace Go.Proofs.YtaeedicihildoaaDoor.hmacWhole
open Go.ChangeShapes Go.WideShapes Go.ChangeAt Go.RowKit
set_option linter.unusedVariables false

set_option maxHeartbeats 4000000 in
set_option maxRecDepth 100000 in
theorem walk (d : List UInt8) (hd : d.length = 32) (a1 : Int) (r1 : 0 ≤ a1 ∧ a1 ≤ 255) (M : Int) (r2 : 0 ≤ M ∧ M ≤ 65535) (w : World) (ht : Tbl w) :
    Calls Tryd.prog 6 #[.agg (byv d), .int .u8 a1, .int .u16 M] w fun e w' => e = .returned (.bool true) ∧ Below w.heap.size w w' := by
  obtain ⟨D, hD⟩ : ∃ D, D = byv d := ⟨_, rfl⟩
  have HDK := Lib.hid (show DOk D by rw [hD]; exact dok _ hd)
  have HD := Lib.hid hD
  rw [← hD]
  have hb0 := (Below.refl w.heap.size w).alloc (Nat.le_refl _) (.cells D 23)
  obtain ⟨k, hk⟩ : ∃ k, k = (a1 % 33).toNat := ⟨_, rfl⟩
  have hk1 : a1 % 33 = (k : Int) := by omega
  have hk32 : k ≤ 32 := by omega
  have hkt : a1.tmod 33 = (k : Int) := by rw [Int.tmod_eq_emod_of_nonneg (by omega)]; exact hk1
  obtain ⟨W0, hW0⟩ : ∃ W0, W0 = w.alloc (.cells D 23) := ⟨_, rfl⟩
  obtain ⟨g, hg⟩ : ∃ g, g = w.heap.size := ⟨_, rfl⟩
  have HBK0 := Lib.hid (show Blk W0 g 23 D by rw [hW0, hg]; exact Blk.new w _ _)
  have HT0 := Lib.hid (show Tbl W0 by rw [hW0]; exact ht.alloc _)
  have HB0 := Lib.hid (show Below w.heap.size w W0 by rw [hW0]; exact hb0)
  have HW0 := Lib.hid hW0
  have HG := Lib.hid hg
  clear hD hb0 hW0 ht hk hk1 hg
  go_enter Tryd.func6, Tryd.ntmps6
  go_wp2_with fail
  rw [← HW0.out, ← HG.out]
  clear HW0
  refine (works_t W0 HT0.out).mono ?_
  rintro e W1 ⟨rfl, b1⟩
  have HBK := Lib.hid (HBK0.out.below b1 HBK0.out.lt)
  have HB1 := Lib.hid (HB0.out.trans (b1.mono HB0.out.size))
  clear b1 HBK0 HT0 HB0
  go_wp2_with fail
  have CL0 := fun W => Left_any d hd k (by omega) (by omega) W
  obtain ⟨m, hm⟩ : ∃ m, m = 32 - k := ⟨_, rfl⟩
  have CR0 := fun W => Right_any d hd m (by omega) (by omega) W
  obtain ⟨A1, hA1d⟩ : ∃ A, A = txt (d.take k) := ⟨_, rfl⟩
  obtain ⟨A2, hA2d⟩ : ∃ A, A = txt (d.drop k) := ⟨_, rfl⟩
  obtain ⟨T, hT⟩ : ∃ T, T = txt d := ⟨_, rfl⟩
  have c1 : cl (k : Int) = k := by unfold cl; omega
  have c2 : 32 - cl (m : Int) = k := by unfold cl; omega
  have CL : ∀ W, Calls Tryd.prog 11 #[.agg D, .int .i64 (k : Int)] W fun e w' => e = .returned (.string A1) ∧ Below W.heap.size W w' := fun W => by
    have := CL0 W; rwa [c1, ← HD.out, ← hA1d] at this
  have CR : ∀ W, Calls Tryd.prog 13 #[.agg D, .int .i64 (m : Int)] W fun e w' => e = .returned (.string A2) ∧ Below W.heap.size W w' := fun W => by
    have := CR0 W; rwa [c2, ← HD.out, ← hA2d] at this
  have hA1 : (A1.size : Int) ≤ 8388608 := by rw [hA1d]; simp [ByteArray.size]; omega
  have hA2 : (A2.size : Int) ≤ 8388608 := by rw [hA2d]; simp [ByteArray.size]; omega
  have hT2 : T = A1 ++ A2 := by rw [hT, hA1d, hA2d]; apply ByteArray.ext; simp [ByteArray.data_append]
  obtain ⟨N, hN⟩ : ∃ N, N = -M := ⟨_, rfl⟩
  obtain ⟨P, hP⟩ : ∃ P, P = 32 + M := ⟨_, rfl⟩
  have cN : cl N = 0 := by unfold cl; omega
  have cP : cl P = 32 := by unfold cl; omega
  have t32 : d.take 32 = d := List.take_of_length_le (by omega)
  have d32 : d.drop 32 = [] := List.drop_of_length_le (by omega)
  have NL : ∀ W, Calls Tryd.prog 11 #[.agg D, .int .i64 N] W fun e w' => e = .returned (.string ⟨#[]⟩) ∧ Below W.heap.size W w' := fun W => by
    have := Left_any d hd N (by omega) (by omega) W; rwa [cN, ← HD.out, List.take_zero] at this
  have NR : ∀ W, Calls Tryd.prog 13 #[.agg D, .int .i64 N] W fun e w' => e = .returned (.string ⟨#[]⟩) ∧ Below W.heap.size W w' := fun W => by
    have := Right_any d hd N (by omega) (by omega) W; rwa [cN, ← HD.out, Nat.sub_zero, d32] at this
  have PL : ∀ W, Calls Tryd.prog 11 #[.agg D, .int .i64 P] W fun e w' => e = .returned (.string T) ∧ Below W.heap.size W w' := fun W => by
    have := Left_any d hd P (by omega) (by omega) W; rwa [cP, ← HD.out, t32, ← hT] at this
  have PR : ∀ W, Calls Tryd.prog 13 #[.agg D, .int .i64 P] W fun e w' => e = .returned (.string T) ∧ Below W.heap.size W w' := fun W => by
    have := Right_any d hd P (by omega) (by omega) W; rwa [cP, ← HD.out, Nat.sub_self, List.drop_zero, ← hT] at this
  have wm : IntKind.i64.wrap ((32 : Int) - (k : Int)) = (m : Int) := by rw [IntKind.wrap_i64]; omega
  have wM : IntKind.i64.wrap M = M := by rw [IntKind.wrap_i64]; omega
  have wN : IntKind.i64.wrap ((0 : Int) - M) = N := by rw [IntKind.wrap_i64]; omega
  have wP : IntKind.i64.wrap ((32 : Int) + M) = P := by rw [IntKind.wrap_i64]; omega
  have hsl := fun W => slice_all W g
  have hcv : ∀ W, Below W1.heap.size W1 W → (convert 31 9 (.slice (some ⟨g, 0, none⟩) 32 32)).run Tryd.prog W = .ok (.string T) W := fun W b => by
    have := conv_front W g 23 d 32 32 (by rw [← HD.out]; exact HBK.out.below b HBK.out.lt) (by omega)
    rwa [t32, ← hT] at this
  clear CL0 CR0 hA1d hA2d hT hm hN hP c1 c2 cN cP t32 d32 hkt r1 r2
  have BW : Below W1.heap.size W1 W1.drew := (Below.refl _ W1).drew
  refine held_start (fun W => Below W1.heap.size W1 W) (by kernel_rfl) (n := 48) rfl ?_
  obtain ⟨W9, hW9⟩ : ∃ W9, W9 = W1.drew := ⟨_, rfl⟩
  rw [← hW9] at BW ⊢
  clear hW9
  refine held_free 0 (.agg D) rfl (by kernel_rfl) (by kernel_rfl) (by kernel_rfl) (by kernel_rfl) BW (fun W b => exec_row_ 23 (.tmp 3) (by kernel_rfl) g (by kernel_rfl) 23 D (0, 0) _ (HBK.out.below b HBK.out.lt) digest_under rfl HDK.out.info) ?_
  refine held_free 1 (.int .i64 (k : Int)) rfl (by kernel_rfl) (by kernel_rfl) (by kernel_rfl) (by kernel_rfl) BW (fun _ _ => by kernel_rfl) ?_
  refine held_free 3 (.agg D) rfl (by kernel_rfl) (by kernel_rfl) (by kernel_rfl) (by kernel_rfl) BW (fun W b => exec_row_ 23 (.tmp 3) (by kernel_rfl) g (by kernel_rfl) 23 D (0, 0) _ (HBK.out.below b HBK.out.lt) digest_under rfl HDK.out.info) ?_
  refine held_free 4 (.int .i64 (k : Int)) rfl (by kernel_rfl) (by kernel_rfl) (by kernel_rfl) (by kernel_rfl) BW (fun _ _ => by kernel_rfl) ?_
  refine held_free 5 (.int .i64 (IntKind.i64.wrap ((32 : Int) - (k : Int)))) rfl (by kernel_rfl) (by kernel_rfl) (by kernel_rfl) (by kernel_rfl) BW (fun _ _ => by kernel_rfl) ?_
  rw [wm]
  refine held_free 8 (.slice (some ⟨g, 0, none⟩) 32 32) rfl (by kernel_rfl) (by kernel_rfl) (by kernel_rfl) (by kernel_rfl) BW (fun W _ => ex_slice0 23 (.tmp 3) (by kernel_rfl) (by kernel_rfl) (hsl W)) ?_
  refine held_free 9 (.string T) rfl (by kernel_rfl) (by kernel_rfl) (by kernel_rfl) (by kernel_rfl) BW (fun W b => ex_convert 31 9 (.tmp 21) (by kernel_rfl) (by kernel_rfl) (hcv W b)) ?_
  refine held_call 2 rfl (by kernel_rfl) (by kernel_rfl) (by kernel_rfl) (CL _) (fun w' h => bel_in BW h) ?_
  intro q2 hq2
  have B2 := bel_in BW hq2
  refine held_call 6 rfl (by kernel_rfl) (by kernel_rfl) (by kernel_rfl) (CR _) (fun w' h => bel_in B2 h) ?_
  intro q6 hq6
  have B6 := bel_in B2 hq6
  refine held_free 7 (.string T) rfl (by kernel_rfl) (by kernel_rfl) (by kernel_rfl) (by kernel_rfl) B6 (fun W _ => ex_strcat 9 9 (.tmp 15) (.tmp 19) (by kernel_rfl) A1 A2 T (by kernel_rfl) (by kernel_rfl) hA1 hA2 hT2) ?_
  refine held_free 10 (.bool true) rfl (by kernel_rfl) (by kernel_rfl) (by kernel_rfl) (by kernel_rfl) B6 (fun W _ => ex_streq 9 9 (.tmp 20) (.tmp 22) (by kernel_rfl) T T (by kernel_rfl) (by kernel_rfl) Tryd.underlying9 rfl) ?_
  refine held_free 11 (.bool true) rfl (by kernel_rfl) (by kernel_rfl) (by kernel_rfl) (by kernel_rfl) B6 (fun _ _ => by kernel_rfl) ?_
  refine held_free 12 (.agg D) rfl (by kernel_rfl) (by kernel_rfl) (by kernel_rfl) (by kernel_rfl) B6 (fun W b => exec_row_ 23 (.tmp 3) (by kernel_rfl) g (by kernel_rfl) 23 D (0, 0) _ (HBK.out.below b HBK.out.lt) digest_under rfl HDK.out.info) ?_
  refine held_free 13 (.int .u16 M) rfl (by kernel_rfl) (by kernel_rfl) (by kernel_rfl) (by kernel_rfl) B6 (fun _ _ => by kernel_rfl) ?_
  refine held_free 14 (.int .i64 (IntKind.i64.wrap M)) rfl (by kernel_rfl) (by kernel_rfl) (by kernel_rfl) (by kernel_rfl) B6 (fun _ _ => by kernel_rfl) ?_
  rw [wM]
  refine held_free 15 (.int .i64 (IntKind.i64.wrap ((0 : Int) - M))) rfl (by kernel_rfl) (by kernel_rfl) (by kernel_rfl) (by kernel_rfl) B6 (fun _ _ => by kernel_rfl) ?_
  rw [wN]
  refine held_call 16 rfl (by kernel_rfl) (by kernel_rfl) (by kernel_rfl) (NL _) (fun w' h => bel_in B6 h) ?_
  intro q16 hq16
  have B16 := bel_in B6 hq16
  refine held_free 17 (.bool true) rfl (by kernel_rfl) (by kernel_rfl) (by kernel_rfl) (by kernel_rfl) B16 (fun W _ => ex_streq 9 9 (.tmp 29) (.const (.string ⟨#[]⟩)) (by kernel_rfl) ⟨#[]⟩ ⟨#[]⟩ (by kernel_rfl) (by kernel_rfl) Tryd.underlying9 rfl) ?_
  refine held_free 18 (.bool true) rfl (by kernel_rfl) (by kernel_rfl) (by kernel_rfl) (by kernel_rfl) B16 (fun _ _ => by kernel_rfl) ?_
  refine held_free 19 (.bool true) rfl (by kernel_rfl) (by kernel_rfl) (by kernel_rfl) (by kernel_rfl) B16 (fun _ _ => by kernel_rfl) ?_
  refine held_free 20 (.agg D) rfl (by kernel_rfl) (by kernel_rfl) (by kernel_rfl) (by kernel_rfl) B16 (fun W b => exec_row_ 23 (.tmp 3) (by kernel_rfl) g (by kernel_rfl) 23 D (0, 0) _ (HBK.out.below b HBK.out.lt) digest_under rfl HDK.out.info) ?_
  refine held_free 21 (.int .u16 M) rfl (by kernel_rfl) (by kernel_rfl) (by kernel_rfl) (by kernel_rfl) B16 (fun _ _ => by kernel_rfl) ?_
  refine held_free 22 (.int .i64 (IntKind.i64.wrap M)) rfl (by kernel_rfl) (by kernel_rfl) (by kernel_rfl) (by kernel_rfl) B16 (fun _ _ => by kernel_rfl) ?_
  rw [wM]
  refine held_free 23 (.int .i64 (IntKind.i64.wrap ((0 : Int) - M))) rfl (by kernel_rfl) (by kernel_rfl) (by kernel_rfl) (by kernel_rfl) B16 (fun _ _ => by kernel_rfl) ?_
  rw [wN]
  refine held_call 24 rfl (by kernel_rfl) (by kernel_rfl) (by kernel_rfl) (NR _) (fun w' h => bel_in B16 h) ?_
  intro q24 hq24
  have B24 := bel_in B16 hq24
  refine held_free 25 (.bool true) rfl (by kernel_rfl) (by kernel_rfl) (by kernel_rfl) (by kernel_rfl) B24 (fun W _ => ex_streq 9 9 (.tmp 37) (.const (.string ⟨#[]⟩)) (by kernel_rfl) ⟨#[]⟩ ⟨#[]⟩ (by kernel_rfl) (by kernel_rfl) Tryd.underlying9 rfl) ?_
  refine held_free 26 (.bool true) rfl (by kernel_rfl) (by kernel_rfl) (by kernel_rfl) (by kernel_rfl) B24 (fun _ _ => by kernel_rfl) ?_
  refine held_free 27 (.bool true) rfl (by kernel_rfl) (by kernel_rfl) (by kernel_rfl) (by kernel_rfl) B24 (fun _ _ => by kernel_rfl) ?_
  refine held_free 28 (.agg D) rfl (by kernel_rfl) (by kernel_rfl) (by kernel_rfl) (by kernel_rfl) B24 (fun W b => exec_row_ 23 (.tmp 3) (by kernel_rfl) g (by kernel_rfl) 23 D (0, 0) _ (HBK.out.below b HBK.out.lt) digest_under rfl HDK.out.info) ?_
  refine held_free 29 (.int .u16 M) rfl (by kernel_rfl) (by kernel_rfl) (by kernel_rfl) (by kernel_rfl) B24 (fun _ _ => by kernel_rfl) ?_
  refine held_free 30 (.int .i64 (IntKind.i64.wrap M)) rfl (by kernel_rfl) (by kernel_rfl) (by kernel_rfl) (by kernel_rfl) B24 (fun _ _ => by kernel_rfl) ?_
  rw [wM]
  refine held_free 31 (.int .i64 (IntKind.i64.wrap ((32 : Int) + M))) rfl (by kernel_rfl) (by kernel_rfl) (by kernel_rfl) (by kernel_rfl) B24 (fun _ _ => by kernel_rfl) ?_
  rw [wP]
  refine held_free 33 (.slice (some ⟨g, 0, none⟩) 32 32) rfl (by kernel_rfl) (by kernel_rfl) (by kernel_rfl) (by kernel_rfl) B24 (fun W _ => ex_slice0 23 (.tmp 3) (by kernel_rfl) (by kernel_rfl) (hsl W)) ?_
  refine held_free 34 (.string T) rfl (by kernel_rfl) (by kernel_rfl) (by kernel_rfl) (by kernel_rfl) B24 (fun W b => ex_convert 31 9 (.tmp 46) (by kernel_rfl) (by kernel_rfl) (hcv W b)) ?_
  refine held_call 32 rfl (by kernel_rfl) (by kernel_rfl) (by kernel_rfl) (PL _) (fun w' h => bel_in B24 h) ?_
  intro q32 hq32
  have B32 := bel_in B24 hq32
  refine held_free 35 (.bool true) rfl (by kernel_rfl) (by kernel_rfl) (by kernel_rfl) (by kernel_rfl) B32 (fun W _ => ex_streq 9 9 (.tmp 45) (.tmp 47) (by kernel_rfl) T T (by kernel_rfl) (by kernel_rfl) Tryd.underlying9 rfl) ?_
  refine held_free 36 (.bool true) rfl (by kernel_rfl) (by kernel_rfl) (by kernel_rfl) (by kernel_rfl) B32 (fun _ _ => by kernel_rfl) ?_
  refine held_free 37 (.bool true) rfl (by kernel_rfl) (by kernel_rfl) (by kernel_rfl) (by kernel_rfl) B32 (fun _ _ => by kernel_rfl) ?_
  refine held_free 38 (.agg D) rfl (by kernel_rfl) (by kernel_rfl) (by kernel_rfl) (by kernel_rfl) B32 (fun W b => exec_row_ 23 (.tmp 3) (by kernel_rfl) g (by kernel_rfl) 23 D (0, 0) _ (HBK.out.below b HBK.out.lt) digest_under rfl HDK.out.info) ?_
  refine held_free 39 (.int .u16 M) rfl (by kernel_rfl) (by kernel_rfl) (by kernel_rfl) (by kernel_rfl) B32 (fun _ _ => by kernel_rfl) ?_
  refine held_free 40 (.int .i64 (IntKind.i64.wrap M)) rfl (by kernel_rfl) (by kernel_rfl) (by kernel_rfl) (by kernel_rfl) B32 (fun _ _ => by kernel_rfl) ?_
  rw [wM]
  refine held_free 41 (.int .i64 (IntKind.i64.wrap ((32 : Int) + M))) rfl (by kernel_rfl) (by kernel_rfl) (by kernel_rfl) (by kernel_rfl) B32 (fun _ _ => by kernel_rfl) ?_
  rw [wP]
  refine held_free 43 (.slice (some ⟨g, 0, none⟩) 32 32) rfl (by kernel_rfl) (by kernel_rfl) (by kernel_rfl) (by kernel_rfl) B32 (fun W _ => ex_slice0 23 (.tmp 3) (by kernel_rfl) (by kernel_rfl) (hsl W)) ?_
  refine held_free 44 (.string T) rfl (by kernel_rfl) (by kernel_rfl) (by kernel_rfl) (by kernel_rfl) B32 (fun W b => ex_convert 31 9 (.tmp 56) (by kernel_rfl) (by kernel_rfl) (hcv W b)) ?_
  refine held_call 42 rfl (by kernel_rfl) (by kernel_rfl) (by kernel_rfl) (PR _) (fun w' h => bel_in B32 h) ?_
  intro q42 hq42
  have B42 := bel_in B32 hq42
  refine held_free 45 (.bool true) rfl (by kernel_rfl) (by kernel_rfl) (by kernel_rfl) (by kernel_rfl) B42 (fun W _ => ex_streq 9 9 (.tmp 55) (.tmp 57) (by kernel_rfl) T T (by kernel_rfl) (by kernel_rfl) Tryd.underlying9 rfl) ?_
  refine held_free 46 (.bool true) rfl (by kernel_rfl) (by kernel_rfl) (by kernel_rfl) (by kernel_rfl) B42 (fun _ _ => by kernel_rfl) ?_
  refine held_free 47 (.bool true) rfl (by kernel_rfl) (by kernel_rfl) (by kernel_rfl) (by kernel_rfl) B42 (fun _ _ => by kernel_rfl) ?_
  refine held_end (by kernel_rfl) ?_
  have HE := Lib.hid (HB1.out.trans (B42.mono HB1.out.size))
  go_wp2_with fail
  go_ret
  exact ⟨by kernel_rfl, HE.out⟩

set_option maxRecDepth 100000 in
theorem lifted (os : Os) (started : os.Started) (H : Type) (enc : TypeId × Value → H) :
    ReturnsInHanded {} Tryd.checked os 6 .any (fun w args => (Rows.hmacWholeSpec.pre enc Tryd.prog Tryd.f6 [] false w args ∧ laidMetH Tryd.prog laid1 w) ∧ sizedMet enc Tryd.prog Tryd.f6 (OpenSpec.ofChange Rows.hmacWholeSpec) false w args)
      (Rows.hmacWholeSpec.post enc Tryd.prog Tryd.f6 false true false false) := by
  refine returnsInHanded_of_change_and (C := Tryd.checked) (X := fun w _ => laidMetH Tryd.prog laid1 w) (fun _ _ _ hh h => h.of_heap hh) own started (by kernel_rfl) Tryd.func6
    (ChangeSpec.witness_shaped (enc := enc) (C := Tryd.checked) (os := os) (X := fun w _ => laidMetH Tryd.prog laid1 w) false (World.doorLaid Tryd.prog 400 os) #[.agg (byv (List.replicate 32 0)), .int .u8 0, .int .u16 0] 8 rfl (World.shaped_of_RefB (by kernel_rfl) (by kernel_rfl)) (by kernel_rfl) (by kernel_rfl) (by kernel_rfl) (door_met os _)) ?_
  intro W base args ds gs before hval0 hW hcnd hsz0 hL _
  have hsz : (DataW.weightsEach Tryd.prog (Tryd.f6.params.toList ++ Rows.hmacWholeSpec.plain.varTypes Tryd.prog) (ds ++ gs)).all (· ≤ reachBytes) = true := hsz0
  have ht := table_of hL
  have hval : ∀ (j : Nat) t v, Tryd.f6.params[j]? = some t → args[j]? = some v → Value.okWide Tryd.prog W .any base t v := hval0
  have hW' := hW
  obtain ⟨p, q, hA0, hV, rfl, hfz, hnd⟩ := hW
  have hA : DataW.TrodAll enc Tryd.prog W 0 (fun _ => true) true Tryd.f6.params.toList args.toList ds p := hA0
  rw [Tryd.params6] at hA hval hsz
  obtain ⟨v0, vs0, d0, ds0, p0, q0, hargs, rfl, rfl, h0, r0⟩ := trodAll_cons hA
  obtain ⟨v1, vs1, d1, ds1, p1, q1, rfl, rfl, rfl, h1, r1⟩ := trodAll_cons r0
  obtain ⟨v2, vs2, d2, ds2, p2, q2, rfl, rfl, rfl, h2, r2⟩ := trodAll_cons r1
  obtain ⟨rfl, rfl, rfl⟩ := trodAll_nil r2
  obtain rfl : args = #[v0, v1, v2] := by cases args; simp_all
  obtain ⟨rfl, rfl⟩ := trodVars_none hV
  have k0 := h0
  have lt0 : ∀ x ∈ p0, x.block < W.heap.size := by obtain ⟨m, hm⟩ := k0; exact DataW.trod_lt m _ _ _ hm
  obtain ⟨l0, hl0, rfl⟩ := open_dig (hval 0 23 v0 rfl rfl) h0
  obtain ⟨a1, rfl, rfl, rfl, w1⟩ := open_int Tryd.underlying5 (hval 1 5 v1 rfl rfl) h1
  obtain ⟨a2, rfl, rfl, rfl, w2⟩ := open_int Tryd.underlying33 (hval 2 33 v2 rfl rfl) h2
  clear hA0 hval0
  simp only [List.append_nil] at hW'
  refine (walk l0 hl0 a1 (bounds_u8 w1) a2 (bounds_u16 w2) W ht).mono fun e W' ⟨he, bel⟩ => ?_
  subst he
  exact ⟨_, rfl, _, _, _, [], _, [], hW', trodAll_mk1 (shut_bool Tryd.underlying4 _), (trodAll_cons_mk (Below.trod laidOut (by kernel_rfl) (of_decide_eq_true (by kernel_rfl)) k0 bel lt0) (trodAll_cons_mk (shut_int Tryd.underlying5 w1) (trodAll_cons_mk (shut_int Tryd.underlying33 w2) trodAll_mk0))), rfl, bel.frame _, fun h => by cases h⟩

theorem over : Rows.HmacWholeSaid :=
  OpenClaim.holds_of_wide 6 Tryd.f6 rfl rfl rfl rfl rfl rfl rfl ⟨rfl, rfl, rfl, rfl, rfl⟩ rfl rfl rfl rfl rfl (by kernel_rfl) Tryd.func6 (by kernel_rfl)
    (of_decide_eq_true (by kernel_rfl)) (by unfold Func.isWrapper; first | (rw [if_pos (by decide +kernel)]; kernel_rfl) | (rw [if_neg (by decide +kernel)]; exact ⟨rfl, rfl⟩))
    (fun os started H enc _ => lifted os started H enc)

theorem proved : Rows.HmacWholeCardSaid :=
  Claim7.holds_tied_plain_at .later [] [.data, .data] true _ false
    over (fun _ h => by cases h) (by kernel_rfl) (fun _ h => by cases h) hmacWhole_row_tie rfl ⟨rfl, rfl⟩ (by kernel_rfl) rfl
    (fun f fn hf hfn => by
      obtain rfl : f = 6 := Option.some.inj ((show Tryd.prog.funcNamed "plait/plaitlaw07.HmacWhole" = some 6 by kernel_rfl).symm.trans hf) |>.symm
      obtain rfl : fn = Tryd.f6 := (Option.some.inj (Tryd.func6.symm.trans hfn)).symm
      exact ⟨by kernel_rfl, fun j t ht => by
        rw [Tryd.params6] at ht
        have hm : t ∈ ([23, 5, 33] : List TypeId) := by simpa using Array.mem_of_getElem? ht
        have hall : (([23, 5, 33] : List TypeId).all fun u => !Tryd.prog.wantsStandIn u) = true := by kernel_rfl
        exact (show Tryd.prog.wantsStandIn t = false by simpa using List.all_eq_true.1 hall t hm)⟩)
    (by kernel_rfl)
#print axioms proved
end Go.Proofs.YtaeedicihildoaaDoor.hmacWhole
