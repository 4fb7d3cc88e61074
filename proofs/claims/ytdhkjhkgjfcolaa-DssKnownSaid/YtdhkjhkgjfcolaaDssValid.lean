/-
  What valid of package dss answers, by its walk: of any signal, in every order that its expression's parts may come up.
-/
import Derived.Test.YtdhkjhkgjfcolaaDssWalks
namespace Go.Proofs.Ytdhkjhkgjfcolaa
open Go.ChangeShapes Go.WideShapes Go.ChangeAt Go.RowKit
set_option linter.unusedVariables false

theorem ds_equal_b (x y : Ds) (B : Bool) (h : deq x y = B) (w : World) : (Op.equalIn 10000 26 (.agg (dsv x)) (.agg (dsv y))).run Try.prog w = .ok B w := by rw [← h]; exact ds_equal x y w
set_option maxHeartbeats 1000000 in
set_option maxRecDepth 100000 in
theorem valid_none (fin : Bool) (la : Bool) (ack : Nat) (ld : Bool) (dsn : Nat) (ssn : Nat) (len : Int) (hs : Bool) (sum : Nat) (hx : Ds.Ok (⟨fin, false, la, ack, false, ld, dsn, ssn, len, hs, sum⟩ : Ds)) (w : World) :
    Calls Try.prog 18 #[.agg (dsv (⟨fin, false, la, ack, false, ld, dsn, ssn, len, hs, sum⟩ : Ds))] w fun e w' => e = .returned (.bool (decide (Ds.May (⟨fin, false, la, ack, false, ld, dsn, ssn, len, hs, sum⟩ : Ds)))) ∧ Below w.heap.size w w' := by
  obtain ⟨V, hV⟩ : ∃ V, V = w.alloc (.cells (dsv (⟨fin, false, la, ack, false, ld, dsn, ssn, len, hs, sum⟩ : Ds)) 26) := ⟨_, rfl⟩
  obtain ⟨b0, hb0⟩ : ∃ b0, b0 = w.heap.size := ⟨_, rfl⟩
  obtain ⟨M, hM⟩ : ∃ M, M = decide (Ds.May (⟨fin, false, la, ack, false, ld, dsn, ssn, len, hs, sum⟩ : Ds)) := ⟨_, rfl⟩
  rw [← hM]
  have HBV := Lib.hid (show Below w.heap.size w V by rw [hV]; exact (Below.refl _ w).alloc (Nat.le_refl _) _)
  have hx0 : Blk V b0 26 (dsv (⟨fin, false, la, ack, false, ld, dsn, ssn, len, hs, sum⟩ : Ds)) := by rw [hV, hb0]; exact Blk.new _ _ _
  have HX := Lib.hid hx0
  have HO := Lib.hid hx
  have HMM := Lib.hid (show M = false from hM.trans (decide_eq_false fun m => by rcases m.1 with q | q <;> cases q))
  have HB0 := Lib.hid hb0
  have HVE := Lib.hid hV
  clear hx0 hb0 hV hx hM
  go_enter Try.func18, Try.ntmps18
  go_upto_region 1 with fail
  rw [← HVE.out, ← HB0.out]
  clear HVE
  have B0 : Below V.heap.size V V.drew := (Below.refl _ V).drew
  refine held_start (fun W => Below V.heap.size V W) (by kernel_rfl) (n := 37) rfl ?_
  obtain ⟨W0, hW0⟩ : ∃ W0, W0 = V.drew := ⟨_, rfl⟩
  rw [← hW0] at B0 ⊢
  clear hW0
  refine held_free 0 (.pointer (some ⟨b0, 1, none⟩)) rfl (by kernel_rfl) (by kernel_rfl) (by kernel_rfl) (by kernel_rfl) B0 (fun _ _ => ex_field (v := .pointer (some ⟨b0, 0, none⟩)) 26 (.tmp 1) 1 (by kernel_rfl) (by kernel_rfl) (by kernel_rfl)) ?_
  refine held_free 1 (.bool false) rfl (by kernel_rfl) (by kernel_rfl) (by kernel_rfl) (by kernel_rfl) B0 (fun W b => ex_load 4 (.tmp 3) (by kernel_rfl) ⟨b0, 1, none⟩ (by kernel_rfl) (by kernel_rfl) ((HX.out.below b HX.out.lt).cell 1)) ?_
  refine held_free 2 (.bool false) rfl (by kernel_rfl) (by kernel_rfl) (by kernel_rfl) (by kernel_rfl) B0 (fun _ _ => by kernel_rfl) ?_
  refine held_free 3 (.pointer (some ⟨b0, 4, none⟩)) rfl (by kernel_rfl) (by kernel_rfl) (by kernel_rfl) (by kernel_rfl) B0 (fun _ _ => ex_field (v := .pointer (some ⟨b0, 0, none⟩)) 26 (.tmp 1) 4 (by kernel_rfl) (by kernel_rfl) (by kernel_rfl)) ?_
  refine held_free 4 (.bool false) rfl (by kernel_rfl) (by kernel_rfl) (by kernel_rfl) (by kernel_rfl) B0 (fun W b => ex_load 4 (.tmp 6) (by kernel_rfl) ⟨b0, 4, none⟩ (by kernel_rfl) (by kernel_rfl) ((HX.out.below b HX.out.lt).cell 4)) ?_
  refine held_free 5 (.bool false) rfl (by kernel_rfl) (by kernel_rfl) (by kernel_rfl) (by kernel_rfl) B0 (fun _ _ => by kernel_rfl) ?_
  refine held_free 6 (.bool false) rfl (by kernel_rfl) (by kernel_rfl) (by kernel_rfl) (by kernel_rfl) B0 (fun _ _ => by kernel_rfl) ?_
  refine held_pass 7 rfl (by kernel_rfl) (by kernel_rfl) (by kernel_rfl) (by kernel_rfl) B0 ?_
  refine held_pass 8 rfl (by kernel_rfl) (by kernel_rfl) (by kernel_rfl) (by kernel_rfl) B0 ?_
  refine held_pass 9 rfl (by kernel_rfl) (by kernel_rfl) (by kernel_rfl) (by kernel_rfl) B0 ?_
  refine held_pass 10 rfl (by kernel_rfl) (by kernel_rfl) (by kernel_rfl) (by kernel_rfl) B0 ?_
  refine held_free 11 (.bool false) rfl (by kernel_rfl) (by kernel_rfl) (by kernel_rfl) (by kernel_rfl) B0 (fun _ _ => by kernel_rfl) ?_
  refine held_free 12 (.bool false) rfl (by kernel_rfl) (by kernel_rfl) (by kernel_rfl) (by kernel_rfl) B0 (fun _ _ => by kernel_rfl) ?_
  refine held_pass 13 rfl (by kernel_rfl) (by kernel_rfl) (by kernel_rfl) (by kernel_rfl) B0 ?_
  refine held_pass 14 rfl (by kernel_rfl) (by kernel_rfl) (by kernel_rfl) (by kernel_rfl) B0 ?_
  refine held_pass 15 rfl (by kernel_rfl) (by kernel_rfl) (by kernel_rfl) (by kernel_rfl) B0 ?_
  refine held_pass 16 rfl (by kernel_rfl) (by kernel_rfl) (by kernel_rfl) (by kernel_rfl) B0 ?_
  refine held_pass 17 rfl (by kernel_rfl) (by kernel_rfl) (by kernel_rfl) (by kernel_rfl) B0 ?_
  refine held_free 18 (.bool false) rfl (by kernel_rfl) (by kernel_rfl) (by kernel_rfl) (by kernel_rfl) B0 (fun _ _ => by kernel_rfl) ?_
  refine held_free 19 (.bool false) rfl (by kernel_rfl) (by kernel_rfl) (by kernel_rfl) (by kernel_rfl) B0 (fun _ _ => by kernel_rfl) ?_
  refine held_pass 20 rfl (by kernel_rfl) (by kernel_rfl) (by kernel_rfl) (by kernel_rfl) B0 ?_
  refine held_pass 21 rfl (by kernel_rfl) (by kernel_rfl) (by kernel_rfl) (by kernel_rfl) B0 ?_
  refine held_pass 22 rfl (by kernel_rfl) (by kernel_rfl) (by kernel_rfl) (by kernel_rfl) B0 ?_
  refine held_pass 23 rfl (by kernel_rfl) (by kernel_rfl) (by kernel_rfl) (by kernel_rfl) B0 ?_
  refine held_pass 24 rfl (by kernel_rfl) (by kernel_rfl) (by kernel_rfl) (by kernel_rfl) B0 ?_
  refine held_free 25 (.bool false) rfl (by kernel_rfl) (by kernel_rfl) (by kernel_rfl) (by kernel_rfl) B0 (fun _ _ => by kernel_rfl) ?_
  refine held_free 26 (.bool false) rfl (by kernel_rfl) (by kernel_rfl) (by kernel_rfl) (by kernel_rfl) B0 (fun _ _ => by kernel_rfl) ?_
  refine held_pass 27 rfl (by kernel_rfl) (by kernel_rfl) (by kernel_rfl) (by kernel_rfl) B0 ?_
  refine held_pass 28 rfl (by kernel_rfl) (by kernel_rfl) (by kernel_rfl) (by kernel_rfl) B0 ?_
  refine held_pass 29 rfl (by kernel_rfl) (by kernel_rfl) (by kernel_rfl) (by kernel_rfl) B0 ?_
  refine held_free 30 (.bool false) rfl (by kernel_rfl) (by kernel_rfl) (by kernel_rfl) (by kernel_rfl) B0 (fun _ _ => by kernel_rfl) ?_
  refine held_free 31 (.bool false) rfl (by kernel_rfl) (by kernel_rfl) (by kernel_rfl) (by kernel_rfl) B0 (fun _ _ => by kernel_rfl) ?_
  refine held_pass 32 rfl (by kernel_rfl) (by kernel_rfl) (by kernel_rfl) (by kernel_rfl) B0 ?_
  refine held_pass 33 rfl (by kernel_rfl) (by kernel_rfl) (by kernel_rfl) (by kernel_rfl) B0 ?_
  refine held_pass 34 rfl (by kernel_rfl) (by kernel_rfl) (by kernel_rfl) (by kernel_rfl) B0 ?_
  refine held_free 35 (.bool false) rfl (by kernel_rfl) (by kernel_rfl) (by kernel_rfl) (by kernel_rfl) B0 (fun _ _ => by kernel_rfl) ?_
  refine held_free 36 (.bool false) rfl (by kernel_rfl) (by kernel_rfl) (by kernel_rfl) (by kernel_rfl) B0 (fun _ _ => by kernel_rfl) ?_
  refine held_end (by kernel_rfl) ?_
  go_wp2_with fail
  rw [HMM.out]
  exact ret_slot 2 (.bool false) (by kernel_rfl) (by kernel_rfl) (by kernel_rfl) ⟨rfl, by have q := HBV.out.trans (B0.mono HBV.out.size); first | exact q | (rw [HB0.out]; exact q)⟩
set_option maxHeartbeats 1000000 in
set_option maxRecDepth 100000 in
theorem valid_ack (fin : Bool) (la : Bool) (ack : Nat) (hm : Bool) (ld : Bool) (dsn : Nat) (ssn : Nat) (len : Int) (hs : Bool) (sum : Nat) (hx : Ds.Ok (⟨fin, true, la, ack, hm, ld, dsn, ssn, len, hs, sum⟩ : Ds)) (w : World) :
    Calls Try.prog 18 #[.agg (dsv (⟨fin, true, la, ack, hm, ld, dsn, ssn, len, hs, sum⟩ : Ds))] w fun e w' => e = .returned (.bool (decide (Ds.May (⟨fin, true, la, ack, hm, ld, dsn, ssn, len, hs, sum⟩ : Ds)))) ∧ Below w.heap.size w w' := by
  obtain ⟨V, hV⟩ : ∃ V, V = w.alloc (.cells (dsv (⟨fin, true, la, ack, hm, ld, dsn, ssn, len, hs, sum⟩ : Ds)) 26) := ⟨_, rfl⟩
  obtain ⟨b0, hb0⟩ : ∃ b0, b0 = w.heap.size := ⟨_, rfl⟩
  obtain ⟨M, hM⟩ : ∃ M, M = decide (Ds.May (⟨fin, true, la, ack, hm, ld, dsn, ssn, len, hs, sum⟩ : Ds)) := ⟨_, rfl⟩
  rw [← hM]
  have HBV := Lib.hid (show Below w.heap.size w V by rw [hV]; exact (Below.refl _ w).alloc (Nat.le_refl _) _)
  have hx0 : Blk V b0 26 (dsv (⟨fin, true, la, ack, hm, ld, dsn, ssn, len, hs, sum⟩ : Ds)) := by rw [hV, hb0]; exact Blk.new _ _ _
  by_cases h0 : Ds.bare (⟨fin, true, la, ack, hm, ld, dsn, ssn, len, hs, sum⟩ : Ds) = (⟨fin, true, la, ack, hm, ld, dsn, ssn, len, hs, sum⟩ : Ds)
  · by_cases h1 : (la || decide (ack ≤ 4294967295)) = true
    · by_cases h2 : (ld || decide (dsn ≤ 4294967295)) = true
      · by_cases h3 : 0 ≤ len
        · by_cases h4 : len ≤ 65535
          · have H0 := Lib.hid (show deq (⟨fin, true, la, ack, hm, ld, dsn, ssn, len, hs, sum⟩ : Ds) (Ds.bare (⟨fin, true, la, ack, hm, ld, dsn, ssn, len, hs, sum⟩ : Ds)) = true from (deq_iff _ _).2 h0.symm)
            have H1 := Lib.hid (show (la || decide (ack ≤ 4294967295)) = true from h1)
            have H2 := Lib.hid (show (ld || decide (dsn ≤ 4294967295)) = true from h2)
            have H3 := Lib.hid (show decide (0 ≤ len) = true from decide_eq_true h3)
            have H4 := Lib.hid (show decide (len ≤ 65535) = true from decide_eq_true h4)
            have HX := Lib.hid hx0
            have HO := Lib.hid hx
            have HMM := Lib.hid (show M = true from hM.trans (decide_eq_true ⟨.inl rfl, (Ds.bare_iff _).1 h0, by simpa using h1, by simpa using h2, h3, h4⟩))
            have HB0 := Lib.hid hb0
            have HVE := Lib.hid hV
            clear hx0 hb0 hV hx hM
            go_enter Try.func18, Try.ntmps18
            go_upto_region 1 with fail
            rw [← HVE.out, ← HB0.out]
            clear HVE
            have B0 : Below V.heap.size V V.drew := (Below.refl _ V).drew
            refine held_start (fun W => Below V.heap.size V W) (by kernel_rfl) (n := 37) rfl ?_
            obtain ⟨W0, hW0⟩ : ∃ W0, W0 = V.drew := ⟨_, rfl⟩
            rw [← hW0] at B0 ⊢
            clear hW0
            refine held_free 0 (.pointer (some ⟨b0, 1, none⟩)) rfl (by kernel_rfl) (by kernel_rfl) (by kernel_rfl) (by kernel_rfl) B0 (fun _ _ => ex_field (v := .pointer (some ⟨b0, 0, none⟩)) 26 (.tmp 1) 1 (by kernel_rfl) (by kernel_rfl) (by kernel_rfl)) ?_
            refine held_free 1 (.bool true) rfl (by kernel_rfl) (by kernel_rfl) (by kernel_rfl) (by kernel_rfl) B0 (fun W b => ex_load 4 (.tmp 3) (by kernel_rfl) ⟨b0, 1, none⟩ (by kernel_rfl) (by kernel_rfl) ((HX.out.below b HX.out.lt).cell 1)) ?_
            refine held_free 2 (.bool true) rfl (by kernel_rfl) (by kernel_rfl) (by kernel_rfl) (by kernel_rfl) B0 (fun _ _ => by kernel_rfl) ?_
            refine held_pass 3 rfl (by kernel_rfl) (by kernel_rfl) (by kernel_rfl) (by kernel_rfl) B0 ?_
            refine held_pass 4 rfl (by kernel_rfl) (by kernel_rfl) (by kernel_rfl) (by kernel_rfl) B0 ?_
            refine held_free 5 (.bool true) rfl (by kernel_rfl) (by kernel_rfl) (by kernel_rfl) (by kernel_rfl) B0 (fun _ _ => by kernel_rfl) ?_
            refine held_free 6 (.bool true) rfl (by kernel_rfl) (by kernel_rfl) (by kernel_rfl) (by kernel_rfl) B0 (fun _ _ => by kernel_rfl) ?_
            refine held_free 7 (.agg (dsv (⟨fin, true, la, ack, hm, ld, dsn, ssn, len, hs, sum⟩ : Ds))) rfl (by kernel_rfl) (by kernel_rfl) (by kernel_rfl) (by kernel_rfl) B0 (fun W b => exec_row_ 26 (.tmp 1) (by kernel_rfl) b0 (by kernel_rfl) 26 _ (0, 0) _ (HX.out.below b HX.out.lt) Try.underlying26 rfl ds_size) ?_
            refine held_free 8 (.agg (dsv (⟨fin, true, la, ack, hm, ld, dsn, ssn, len, hs, sum⟩ : Ds))) rfl (by kernel_rfl) (by kernel_rfl) (by kernel_rfl) (by kernel_rfl) B0 (fun W b => exec_row_ 26 (.tmp 1) (by kernel_rfl) b0 (by kernel_rfl) 26 _ (0, 0) _ (HX.out.below b HX.out.lt) Try.underlying26 rfl ds_size) ?_
            refine held_call 9 rfl (by kernel_rfl) (by kernel_rfl) (by kernel_rfl) (owned_any (⟨fin, true, la, ack, hm, ld, dsn, ssn, len, hs, sum⟩ : Ds) _) (fun w' h => bel_in B0 h) ?_
            intro W1 hW1
            have B1 := bel_in B0 hW1
            clear hW1 B0
            refine held_free 10 (.bool true) rfl (by kernel_rfl) (by kernel_rfl) (by kernel_rfl) (by kernel_rfl) B1 (fun W b => ex_aggeq 26 26 (.tmp 10) (.tmp 12) (by kernel_rfl) ((dsv (⟨fin, true, la, ack, hm, ld, dsn, ssn, len, hs, sum⟩ : Ds))) ((dsv (Ds.bare (⟨fin, true, la, ack, hm, ld, dsn, ssn, len, hs, sum⟩ : Ds)))) (by kernel_rfl) (by kernel_rfl) (by kernel_rfl) true (ds_equal_b _ _ true H0.out W)) ?_
            refine held_free 11 (.bool true) rfl (by kernel_rfl) (by kernel_rfl) (by kernel_rfl) (by kernel_rfl) B1 (fun _ _ => by kernel_rfl) ?_
            refine held_free 12 (.bool true) rfl (by kernel_rfl) (by kernel_rfl) (by kernel_rfl) (by kernel_rfl) B1 (fun _ _ => by kernel_rfl) ?_
            refine held_free 13 (.pointer (some ⟨b0, 3, none⟩)) rfl (by kernel_rfl) (by kernel_rfl) (by kernel_rfl) (by kernel_rfl) B1 (fun _ _ => ex_field (v := .pointer (some ⟨b0, 0, none⟩)) 26 (.tmp 1) 3 (by kernel_rfl) (by kernel_rfl) (by kernel_rfl)) ?_
            refine held_free 14 (.int .u64 (ack : Int)) rfl (by kernel_rfl) (by kernel_rfl) (by kernel_rfl) (by kernel_rfl) B1 (fun W b => ex_load 22 (.tmp 16) (by kernel_rfl) ⟨b0, 3, none⟩ (by kernel_rfl) (by kernel_rfl) ((HX.out.below b HX.out.lt).cell 3)) ?_
            refine held_free 15 (.pointer (some ⟨b0, 2, none⟩)) rfl (by kernel_rfl) (by kernel_rfl) (by kernel_rfl) (by kernel_rfl) B1 (fun _ _ => ex_field (v := .pointer (some ⟨b0, 0, none⟩)) 26 (.tmp 1) 2 (by kernel_rfl) (by kernel_rfl) (by kernel_rfl)) ?_
            refine held_free 16 (.bool la) rfl (by kernel_rfl) (by kernel_rfl) (by kernel_rfl) (by kernel_rfl) B1 (fun W b => ex_load 4 (.tmp 18) (by kernel_rfl) ⟨b0, 2, none⟩ (by kernel_rfl) (by kernel_rfl) ((HX.out.below b HX.out.lt).cell 2)) ?_
            refine held_call 17 rfl (by kernel_rfl) (by kernel_rfl) (by kernel_rfl) (answer (fits_any ack la _ HO.out.ack) (congrArg Value.bool H1.out)) (fun w' h => bel_in B1 h) ?_
            intro W2 hW2
            have B2 := bel_in B1 hW2
            clear hW2 B1
            refine held_free 18 (.bool true) rfl (by kernel_rfl) (by kernel_rfl) (by kernel_rfl) (by kernel_rfl) B2 (fun _ _ => by kernel_rfl) ?_
            refine held_free 19 (.bool true) rfl (by kernel_rfl) (by kernel_rfl) (by kernel_rfl) (by kernel_rfl) B2 (fun _ _ => by kernel_rfl) ?_
            refine held_free 20 (.pointer (some ⟨b0, 6, none⟩)) rfl (by kernel_rfl) (by kernel_rfl) (by kernel_rfl) (by kernel_rfl) B2 (fun _ _ => ex_field (v := .pointer (some ⟨b0, 0, none⟩)) 26 (.tmp 1) 6 (by kernel_rfl) (by kernel_rfl) (by kernel_rfl)) ?_
            refine held_free 21 (.int .u64 (dsn : Int)) rfl (by kernel_rfl) (by kernel_rfl) (by kernel_rfl) (by kernel_rfl) B2 (fun W b => ex_load 22 (.tmp 23) (by kernel_rfl) ⟨b0, 6, none⟩ (by kernel_rfl) (by kernel_rfl) ((HX.out.below b HX.out.lt).cell 6)) ?_
            refine held_free 22 (.pointer (some ⟨b0, 5, none⟩)) rfl (by kernel_rfl) (by kernel_rfl) (by kernel_rfl) (by kernel_rfl) B2 (fun _ _ => ex_field (v := .pointer (some ⟨b0, 0, none⟩)) 26 (.tmp 1) 5 (by kernel_rfl) (by kernel_rfl) (by kernel_rfl)) ?_
            refine held_free 23 (.bool ld) rfl (by kernel_rfl) (by kernel_rfl) (by kernel_rfl) (by kernel_rfl) B2 (fun W b => ex_load 4 (.tmp 25) (by kernel_rfl) ⟨b0, 5, none⟩ (by kernel_rfl) (by kernel_rfl) ((HX.out.below b HX.out.lt).cell 5)) ?_
            refine held_call 24 rfl (by kernel_rfl) (by kernel_rfl) (by kernel_rfl) (answer (fits_any dsn ld _ HO.out.dsn) (congrArg Value.bool H2.out)) (fun w' h => bel_in B2 h) ?_
            intro W3 hW3
            have B3 := bel_in B2 hW3
            clear hW3 B2
            refine held_free 25 (.bool true) rfl (by kernel_rfl) (by kernel_rfl) (by kernel_rfl) (by kernel_rfl) B3 (fun _ _ => by kernel_rfl) ?_
            refine held_free 26 (.bool true) rfl (by kernel_rfl) (by kernel_rfl) (by kernel_rfl) (by kernel_rfl) B3 (fun _ _ => by kernel_rfl) ?_
            refine held_free 27 (.pointer (some ⟨b0, 8, none⟩)) rfl (by kernel_rfl) (by kernel_rfl) (by kernel_rfl) (by kernel_rfl) B3 (fun _ _ => ex_field (v := .pointer (some ⟨b0, 0, none⟩)) 26 (.tmp 1) 8 (by kernel_rfl) (by kernel_rfl) (by kernel_rfl)) ?_
            refine held_free 28 (.int .i64 len) rfl (by kernel_rfl) (by kernel_rfl) (by kernel_rfl) (by kernel_rfl) B3 (fun W b => ex_load 3 (.tmp 30) (by kernel_rfl) ⟨b0, 8, none⟩ (by kernel_rfl) (by kernel_rfl) ((HX.out.below b HX.out.lt).cell 8)) ?_
            refine held_free 29 (.bool true) rfl (by kernel_rfl) (by kernel_rfl) (by kernel_rfl) (by kernel_rfl) B3 (fun _ _ => ex_intleb .i64 3 3 (.const (.int .i64 0)) (.tmp 31) (by kernel_rfl) (0) (len) (by kernel_rfl) (by kernel_rfl) (by kernel_rfl) true (H3.out)) ?_
            refine held_free 30 (.bool true) rfl (by kernel_rfl) (by kernel_rfl) (by kernel_rfl) (by kernel_rfl) B3 (fun _ _ => by kernel_rfl) ?_
            refine held_free 31 (.bool true) rfl (by kernel_rfl) (by kernel_rfl) (by kernel_rfl) (by kernel_rfl) B3 (fun _ _ => by kernel_rfl) ?_
            refine held_free 32 (.pointer (some ⟨b0, 8, none⟩)) rfl (by kernel_rfl) (by kernel_rfl) (by kernel_rfl) (by kernel_rfl) B3 (fun _ _ => ex_field (v := .pointer (some ⟨b0, 0, none⟩)) 26 (.tmp 1) 8 (by kernel_rfl) (by kernel_rfl) (by kernel_rfl)) ?_
            refine held_free 33 (.int .i64 len) rfl (by kernel_rfl) (by kernel_rfl) (by kernel_rfl) (by kernel_rfl) B3 (fun W b => ex_load 3 (.tmp 35) (by kernel_rfl) ⟨b0, 8, none⟩ (by kernel_rfl) (by kernel_rfl) ((HX.out.below b HX.out.lt).cell 8)) ?_
            refine held_free 34 (.bool true) rfl (by kernel_rfl) (by kernel_rfl) (by kernel_rfl) (by kernel_rfl) B3 (fun _ _ => ex_intleb .i64 3 3 (.tmp 36) (.const (.int .i64 65535)) (by kernel_rfl) (len) (65535) (by kernel_rfl) (by kernel_rfl) (by kernel_rfl) true (H4.out)) ?_
            refine held_free 35 (.bool true) rfl (by kernel_rfl) (by kernel_rfl) (by kernel_rfl) (by kernel_rfl) B3 (fun _ _ => by kernel_rfl) ?_
            refine held_free 36 (.bool true) rfl (by kernel_rfl) (by kernel_rfl) (by kernel_rfl) (by kernel_rfl) B3 (fun _ _ => by kernel_rfl) ?_
            refine held_end (by kernel_rfl) ?_
            go_wp2_with fail
            rw [HMM.out]
            exact ret_slot 2 (.bool true) (by kernel_rfl) (by kernel_rfl) (by kernel_rfl) ⟨rfl, by have q := HBV.out.trans (B3.mono HBV.out.size); first | exact q | (rw [HB0.out]; exact q)⟩
          · have H0 := Lib.hid (show deq (⟨fin, true, la, ack, hm, ld, dsn, ssn, len, hs, sum⟩ : Ds) (Ds.bare (⟨fin, true, la, ack, hm, ld, dsn, ssn, len, hs, sum⟩ : Ds)) = true from (deq_iff _ _).2 h0.symm)
            have H1 := Lib.hid (show (la || decide (ack ≤ 4294967295)) = true from h1)
            have H2 := Lib.hid (show (ld || decide (dsn ≤ 4294967295)) = true from h2)
            have H3 := Lib.hid (show decide (0 ≤ len) = true from decide_eq_true h3)
            have H4 := Lib.hid (show decide (len ≤ 65535) = false from decide_eq_false h4)
            have HX := Lib.hid hx0
            have HO := Lib.hid hx
            have HMM := Lib.hid (show M = false from hM.trans (decide_eq_false fun m => h4 m.2.2.2.2.2))
            have HB0 := Lib.hid hb0
            have HVE := Lib.hid hV
            clear hx0 hb0 hV hx hM
            go_enter Try.func18, Try.ntmps18
            go_upto_region 1 with fail
            rw [← HVE.out, ← HB0.out]
            clear HVE
            have B0 : Below V.heap.size V V.drew := (Below.refl _ V).drew
            refine held_start (fun W => Below V.heap.size V W) (by kernel_rfl) (n := 37) rfl ?_
            obtain ⟨W0, hW0⟩ : ∃ W0, W0 = V.drew := ⟨_, rfl⟩
            rw [← hW0] at B0 ⊢
            clear hW0
            refine held_free 0 (.pointer (some ⟨b0, 1, none⟩)) rfl (by kernel_rfl) (by kernel_rfl) (by kernel_rfl) (by kernel_rfl) B0 (fun _ _ => ex_field (v := .pointer (some ⟨b0, 0, none⟩)) 26 (.tmp 1) 1 (by kernel_rfl) (by kernel_rfl) (by kernel_rfl)) ?_
            refine held_free 1 (.bool true) rfl (by kernel_rfl) (by kernel_rfl) (by kernel_rfl) (by kernel_rfl) B0 (fun W b => ex_load 4 (.tmp 3) (by kernel_rfl) ⟨b0, 1, none⟩ (by kernel_rfl) (by kernel_rfl) ((HX.out.below b HX.out.lt).cell 1)) ?_
            refine held_free 2 (.bool true) rfl (by kernel_rfl) (by kernel_rfl) (by kernel_rfl) (by kernel_rfl) B0 (fun _ _ => by kernel_rfl) ?_
            refine held_pass 3 rfl (by kernel_rfl) (by kernel_rfl) (by kernel_rfl) (by kernel_rfl) B0 ?_
            refine held_pass 4 rfl (by kernel_rfl) (by kernel_rfl) (by kernel_rfl) (by kernel_rfl) B0 ?_
            refine held_free 5 (.bool true) rfl (by kernel_rfl) (by kernel_rfl) (by kernel_rfl) (by kernel_rfl) B0 (fun _ _ => by kernel_rfl) ?_
            refine held_free 6 (.bool true) rfl (by kernel_rfl) (by kernel_rfl) (by kernel_rfl) (by kernel_rfl) B0 (fun _ _ => by kernel_rfl) ?_
            refine held_free 7 (.agg (dsv (⟨fin, true, la, ack, hm, ld, dsn, ssn, len, hs, sum⟩ : Ds))) rfl (by kernel_rfl) (by kernel_rfl) (by kernel_rfl) (by kernel_rfl) B0 (fun W b => exec_row_ 26 (.tmp 1) (by kernel_rfl) b0 (by kernel_rfl) 26 _ (0, 0) _ (HX.out.below b HX.out.lt) Try.underlying26 rfl ds_size) ?_
            refine held_free 8 (.agg (dsv (⟨fin, true, la, ack, hm, ld, dsn, ssn, len, hs, sum⟩ : Ds))) rfl (by kernel_rfl) (by kernel_rfl) (by kernel_rfl) (by kernel_rfl) B0 (fun W b => exec_row_ 26 (.tmp 1) (by kernel_rfl) b0 (by kernel_rfl) 26 _ (0, 0) _ (HX.out.below b HX.out.lt) Try.underlying26 rfl ds_size) ?_
            refine held_call 9 rfl (by kernel_rfl) (by kernel_rfl) (by kernel_rfl) (owned_any (⟨fin, true, la, ack, hm, ld, dsn, ssn, len, hs, sum⟩ : Ds) _) (fun w' h => bel_in B0 h) ?_
            intro W1 hW1
            have B1 := bel_in B0 hW1
            clear hW1 B0
            refine held_free 10 (.bool true) rfl (by kernel_rfl) (by kernel_rfl) (by kernel_rfl) (by kernel_rfl) B1 (fun W b => ex_aggeq 26 26 (.tmp 10) (.tmp 12) (by kernel_rfl) ((dsv (⟨fin, true, la, ack, hm, ld, dsn, ssn, len, hs, sum⟩ : Ds))) ((dsv (Ds.bare (⟨fin, true, la, ack, hm, ld, dsn, ssn, len, hs, sum⟩ : Ds)))) (by kernel_rfl) (by kernel_rfl) (by kernel_rfl) true (ds_equal_b _ _ true H0.out W)) ?_
            refine held_free 11 (.bool true) rfl (by kernel_rfl) (by kernel_rfl) (by kernel_rfl) (by kernel_rfl) B1 (fun _ _ => by kernel_rfl) ?_
            refine held_free 12 (.bool true) rfl (by kernel_rfl) (by kernel_rfl) (by kernel_rfl) (by kernel_rfl) B1 (fun _ _ => by kernel_rfl) ?_
            refine held_free 13 (.pointer (some ⟨b0, 3, none⟩)) rfl (by kernel_rfl) (by kernel_rfl) (by kernel_rfl) (by kernel_rfl) B1 (fun _ _ => ex_field (v := .pointer (some ⟨b0, 0, none⟩)) 26 (.tmp 1) 3 (by kernel_rfl) (by kernel_rfl) (by kernel_rfl)) ?_
            refine held_free 14 (.int .u64 (ack : Int)) rfl (by kernel_rfl) (by kernel_rfl) (by kernel_rfl) (by kernel_rfl) B1 (fun W b => ex_load 22 (.tmp 16) (by kernel_rfl) ⟨b0, 3, none⟩ (by kernel_rfl) (by kernel_rfl) ((HX.out.below b HX.out.lt).cell 3)) ?_
            refine held_free 15 (.pointer (some ⟨b0, 2, none⟩)) rfl (by kernel_rfl) (by kernel_rfl) (by kernel_rfl) (by kernel_rfl) B1 (fun _ _ => ex_field (v := .pointer (some ⟨b0, 0, none⟩)) 26 (.tmp 1) 2 (by kernel_rfl) (by kernel_rfl) (by kernel_rfl)) ?_
            refine held_free 16 (.bool la) rfl (by kernel_rfl) (by kernel_rfl) (by kernel_rfl) (by kernel_rfl) B1 (fun W b => ex_load 4 (.tmp 18) (by kernel_rfl) ⟨b0, 2, none⟩ (by kernel_rfl) (by kernel_rfl) ((HX.out.below b HX.out.lt).cell 2)) ?_
            refine held_call 17 rfl (by kernel_rfl) (by kernel_rfl) (by kernel_rfl) (answer (fits_any ack la _ HO.out.ack) (congrArg Value.bool H1.out)) (fun w' h => bel_in B1 h) ?_
            intro W2 hW2
            have B2 := bel_in B1 hW2
            clear hW2 B1
            refine held_free 18 (.bool true) rfl (by kernel_rfl) (by kernel_rfl) (by kernel_rfl) (by kernel_rfl) B2 (fun _ _ => by kernel_rfl) ?_
            refine held_free 19 (.bool true) rfl (by kernel_rfl) (by kernel_rfl) (by kernel_rfl) (by kernel_rfl) B2 (fun _ _ => by kernel_rfl) ?_
            refine held_free 20 (.pointer (some ⟨b0, 6, none⟩)) rfl (by kernel_rfl) (by kernel_rfl) (by kernel_rfl) (by kernel_rfl) B2 (fun _ _ => ex_field (v := .pointer (some ⟨b0, 0, none⟩)) 26 (.tmp 1) 6 (by kernel_rfl) (by kernel_rfl) (by kernel_rfl)) ?_
            refine held_free 21 (.int .u64 (dsn : Int)) rfl (by kernel_rfl) (by kernel_rfl) (by kernel_rfl) (by kernel_rfl) B2 (fun W b => ex_load 22 (.tmp 23) (by kernel_rfl) ⟨b0, 6, none⟩ (by kernel_rfl) (by kernel_rfl) ((HX.out.below b HX.out.lt).cell 6)) ?_
            refine held_free 22 (.pointer (some ⟨b0, 5, none⟩)) rfl (by kernel_rfl) (by kernel_rfl) (by kernel_rfl) (by kernel_rfl) B2 (fun _ _ => ex_field (v := .pointer (some ⟨b0, 0, none⟩)) 26 (.tmp 1) 5 (by kernel_rfl) (by kernel_rfl) (by kernel_rfl)) ?_
            refine held_free 23 (.bool ld) rfl (by kernel_rfl) (by kernel_rfl) (by kernel_rfl) (by kernel_rfl) B2 (fun W b => ex_load 4 (.tmp 25) (by kernel_rfl) ⟨b0, 5, none⟩ (by kernel_rfl) (by kernel_rfl) ((HX.out.below b HX.out.lt).cell 5)) ?_
            refine held_call 24 rfl (by kernel_rfl) (by kernel_rfl) (by kernel_rfl) (answer (fits_any dsn ld _ HO.out.dsn) (congrArg Value.bool H2.out)) (fun w' h => bel_in B2 h) ?_
            intro W3 hW3
            have B3 := bel_in B2 hW3
            clear hW3 B2
            refine held_free 25 (.bool true) rfl (by kernel_rfl) (by kernel_rfl) (by kernel_rfl) (by kernel_rfl) B3 (fun _ _ => by kernel_rfl) ?_
            refine held_free 26 (.bool true) rfl (by kernel_rfl) (by kernel_rfl) (by kernel_rfl) (by kernel_rfl) B3 (fun _ _ => by kernel_rfl) ?_
            refine held_free 27 (.pointer (some ⟨b0, 8, none⟩)) rfl (by kernel_rfl) (by kernel_rfl) (by kernel_rfl) (by kernel_rfl) B3 (fun _ _ => ex_field (v := .pointer (some ⟨b0, 0, none⟩)) 26 (.tmp 1) 8 (by kernel_rfl) (by kernel_rfl) (by kernel_rfl)) ?_
            refine held_free 28 (.int .i64 len) rfl (by kernel_rfl) (by kernel_rfl) (by kernel_rfl) (by kernel_rfl) B3 (fun W b => ex_load 3 (.tmp 30) (by kernel_rfl) ⟨b0, 8, none⟩ (by kernel_rfl) (by kernel_rfl) ((HX.out.below b HX.out.lt).cell 8)) ?_
            refine held_free 29 (.bool true) rfl (by kernel_rfl) (by kernel_rfl) (by kernel_rfl) (by kernel_rfl) B3 (fun _ _ => ex_intleb .i64 3 3 (.const (.int .i64 0)) (.tmp 31) (by kernel_rfl) (0) (len) (by kernel_rfl) (by kernel_rfl) (by kernel_rfl) true (H3.out)) ?_
            refine held_free 30 (.bool true) rfl (by kernel_rfl) (by kernel_rfl) (by kernel_rfl) (by kernel_rfl) B3 (fun _ _ => by kernel_rfl) ?_
            refine held_free 31 (.bool true) rfl (by kernel_rfl) (by kernel_rfl) (by kernel_rfl) (by kernel_rfl) B3 (fun _ _ => by kernel_rfl) ?_
            refine held_free 32 (.pointer (some ⟨b0, 8, none⟩)) rfl (by kernel_rfl) (by kernel_rfl) (by kernel_rfl) (by kernel_rfl) B3 (fun _ _ => ex_field (v := .pointer (some ⟨b0, 0, none⟩)) 26 (.tmp 1) 8 (by kernel_rfl) (by kernel_rfl) (by kernel_rfl)) ?_
            refine held_free 33 (.int .i64 len) rfl (by kernel_rfl) (by kernel_rfl) (by kernel_rfl) (by kernel_rfl) B3 (fun W b => ex_load 3 (.tmp 35) (by kernel_rfl) ⟨b0, 8, none⟩ (by kernel_rfl) (by kernel_rfl) ((HX.out.below b HX.out.lt).cell 8)) ?_
            refine held_free 34 (.bool false) rfl (by kernel_rfl) (by kernel_rfl) (by kernel_rfl) (by kernel_rfl) B3 (fun _ _ => ex_intleb .i64 3 3 (.tmp 36) (.const (.int .i64 65535)) (by kernel_rfl) (len) (65535) (by kernel_rfl) (by kernel_rfl) (by kernel_rfl) false (H4.out)) ?_
            refine held_free 35 (.bool false) rfl (by kernel_rfl) (by kernel_rfl) (by kernel_rfl) (by kernel_rfl) B3 (fun _ _ => by kernel_rfl) ?_
            refine held_free 36 (.bool false) rfl (by kernel_rfl) (by kernel_rfl) (by kernel_rfl) (by kernel_rfl) B3 (fun _ _ => by kernel_rfl) ?_
            refine held_end (by kernel_rfl) ?_
            go_wp2_with fail
            rw [HMM.out]
            exact ret_slot 2 (.bool false) (by kernel_rfl) (by kernel_rfl) (by kernel_rfl) ⟨rfl, by have q := HBV.out.trans (B3.mono HBV.out.size); first | exact q | (rw [HB0.out]; exact q)⟩
        · have H0 := Lib.hid (show deq (⟨fin, true, la, ack, hm, ld, dsn, ssn, len, hs, sum⟩ : Ds) (Ds.bare (⟨fin, true, la, ack, hm, ld, dsn, ssn, len, hs, sum⟩ : Ds)) = true from (deq_iff _ _).2 h0.symm)
          have H1 := Lib.hid (show (la || decide (ack ≤ 4294967295)) = true from h1)
          have H2 := Lib.hid (show (ld || decide (dsn ≤ 4294967295)) = true from h2)
          have H3 := Lib.hid (show decide (0 ≤ len) = false from decide_eq_false h3)
          have HX := Lib.hid hx0
          have HO := Lib.hid hx
          have HMM := Lib.hid (show M = false from hM.trans (decide_eq_false fun m => h3 m.2.2.2.2.1))
          have HB0 := Lib.hid hb0
          have HVE := Lib.hid hV
          clear hx0 hb0 hV hx hM
          go_enter Try.func18, Try.ntmps18
          go_upto_region 1 with fail
          rw [← HVE.out, ← HB0.out]
          clear HVE
          have B0 : Below V.heap.size V V.drew := (Below.refl _ V).drew
          refine held_start (fun W => Below V.heap.size V W) (by kernel_rfl) (n := 37) rfl ?_
          obtain ⟨W0, hW0⟩ : ∃ W0, W0 = V.drew := ⟨_, rfl⟩
          rw [← hW0] at B0 ⊢
          clear hW0
          refine held_free 0 (.pointer (some ⟨b0, 1, none⟩)) rfl (by kernel_rfl) (by kernel_rfl) (by kernel_rfl) (by kernel_rfl) B0 (fun _ _ => ex_field (v := .pointer (some ⟨b0, 0, none⟩)) 26 (.tmp 1) 1 (by kernel_rfl) (by kernel_rfl) (by kernel_rfl)) ?_
          refine held_free 1 (.bool true) rfl (by kernel_rfl) (by kernel_rfl) (by kernel_rfl) (by kernel_rfl) B0 (fun W b => ex_load 4 (.tmp 3) (by kernel_rfl) ⟨b0, 1, none⟩ (by kernel_rfl) (by kernel_rfl) ((HX.out.below b HX.out.lt).cell 1)) ?_
          refine held_free 2 (.bool true) rfl (by kernel_rfl) (by kernel_rfl) (by kernel_rfl) (by kernel_rfl) B0 (fun _ _ => by kernel_rfl) ?_
          refine held_pass 3 rfl (by kernel_rfl) (by kernel_rfl) (by kernel_rfl) (by kernel_rfl) B0 ?_
          refine held_pass 4 rfl (by kernel_rfl) (by kernel_rfl) (by kernel_rfl) (by kernel_rfl) B0 ?_
          refine held_free 5 (.bool true) rfl (by kernel_rfl) (by kernel_rfl) (by kernel_rfl) (by kernel_rfl) B0 (fun _ _ => by kernel_rfl) ?_
          refine held_free 6 (.bool true) rfl (by kernel_rfl) (by kernel_rfl) (by kernel_rfl) (by kernel_rfl) B0 (fun _ _ => by kernel_rfl) ?_
          refine held_free 7 (.agg (dsv (⟨fin, true, la, ack, hm, ld, dsn, ssn, len, hs, sum⟩ : Ds))) rfl (by kernel_rfl) (by kernel_rfl) (by kernel_rfl) (by kernel_rfl) B0 (fun W b => exec_row_ 26 (.tmp 1) (by kernel_rfl) b0 (by kernel_rfl) 26 _ (0, 0) _ (HX.out.below b HX.out.lt) Try.underlying26 rfl ds_size) ?_
          refine held_free 8 (.agg (dsv (⟨fin, true, la, ack, hm, ld, dsn, ssn, len, hs, sum⟩ : Ds))) rfl (by kernel_rfl) (by kernel_rfl) (by kernel_rfl) (by kernel_rfl) B0 (fun W b => exec_row_ 26 (.tmp 1) (by kernel_rfl) b0 (by kernel_rfl) 26 _ (0, 0) _ (HX.out.below b HX.out.lt) Try.underlying26 rfl ds_size) ?_
          refine held_call 9 rfl (by kernel_rfl) (by kernel_rfl) (by kernel_rfl) (owned_any (⟨fin, true, la, ack, hm, ld, dsn, ssn, len, hs, sum⟩ : Ds) _) (fun w' h => bel_in B0 h) ?_
          intro W1 hW1
          have B1 := bel_in B0 hW1
          clear hW1 B0
          refine held_free 10 (.bool true) rfl (by kernel_rfl) (by kernel_rfl) (by kernel_rfl) (by kernel_rfl) B1 (fun W b => ex_aggeq 26 26 (.tmp 10) (.tmp 12) (by kernel_rfl) ((dsv (⟨fin, true, la, ack, hm, ld, dsn, ssn, len, hs, sum⟩ : Ds))) ((dsv (Ds.bare (⟨fin, true, la, ack, hm, ld, dsn, ssn, len, hs, sum⟩ : Ds)))) (by kernel_rfl) (by kernel_rfl) (by kernel_rfl) true (ds_equal_b _ _ true H0.out W)) ?_
          refine held_free 11 (.bool true) rfl (by kernel_rfl) (by kernel_rfl) (by kernel_rfl) (by kernel_rfl) B1 (fun _ _ => by kernel_rfl) ?_
          refine held_free 12 (.bool true) rfl (by kernel_rfl) (by kernel_rfl) (by kernel_rfl) (by kernel_rfl) B1 (fun _ _ => by kernel_rfl) ?_
          refine held_free 13 (.pointer (some ⟨b0, 3, none⟩)) rfl (by kernel_rfl) (by kernel_rfl) (by kernel_rfl) (by kernel_rfl) B1 (fun _ _ => ex_field (v := .pointer (some ⟨b0, 0, none⟩)) 26 (.tmp 1) 3 (by kernel_rfl) (by kernel_rfl) (by kernel_rfl)) ?_
          refine held_free 14 (.int .u64 (ack : Int)) rfl (by kernel_rfl) (by kernel_rfl) (by kernel_rfl) (by kernel_rfl) B1 (fun W b => ex_load 22 (.tmp 16) (by kernel_rfl) ⟨b0, 3, none⟩ (by kernel_rfl) (by kernel_rfl) ((HX.out.below b HX.out.lt).cell 3)) ?_
          refine held_free 15 (.pointer (some ⟨b0, 2, none⟩)) rfl (by kernel_rfl) (by kernel_rfl) (by kernel_rfl) (by kernel_rfl) B1 (fun _ _ => ex_field (v := .pointer (some ⟨b0, 0, none⟩)) 26 (.tmp 1) 2 (by kernel_rfl) (by kernel_rfl) (by kernel_rfl)) ?_
          refine held_free 16 (.bool la) rfl (by kernel_rfl) (by kernel_rfl) (by kernel_rfl) (by kernel_rfl) B1 (fun W b => ex_load 4 (.tmp 18) (by kernel_rfl) ⟨b0, 2, none⟩ (by kernel_rfl) (by kernel_rfl) ((HX.out.below b HX.out.lt).cell 2)) ?_
          refine held_call 17 rfl (by kernel_rfl) (by kernel_rfl) (by kernel_rfl) (answer (fits_any ack la _ HO.out.ack) (congrArg Value.bool H1.out)) (fun w' h => bel_in B1 h) ?_
          intro W2 hW2
          have B2 := bel_in B1 hW2
          clear hW2 B1
          refine held_free 18 (.bool true) rfl (by kernel_rfl) (by kernel_rfl) (by kernel_rfl) (by kernel_rfl) B2 (fun _ _ => by kernel_rfl) ?_
          refine held_free 19 (.bool true) rfl (by kernel_rfl) (by kernel_rfl) (by kernel_rfl) (by kernel_rfl) B2 (fun _ _ => by kernel_rfl) ?_
          refine held_free 20 (.pointer (some ⟨b0, 6, none⟩)) rfl (by kernel_rfl) (by kernel_rfl) (by kernel_rfl) (by kernel_rfl) B2 (fun _ _ => ex_field (v := .pointer (some ⟨b0, 0, none⟩)) 26 (.tmp 1) 6 (by kernel_rfl) (by kernel_rfl) (by kernel_rfl)) ?_
          refine held_free 21 (.int .u64 (dsn : Int)) rfl (by kernel_rfl) (by kernel_rfl) (by kernel_rfl) (by kernel_rfl) B2 (fun W b => ex_load 22 (.tmp 23) (by kernel_rfl) ⟨b0, 6, none⟩ (by kernel_rfl) (by kernel_rfl) ((HX.out.below b HX.out.lt).cell 6)) ?_
          refine held_free 22 (.pointer (some ⟨b0, 5, none⟩)) rfl (by kernel_rfl) (by kernel_rfl) (by kernel_rfl) (by kernel_rfl) B2 (fun _ _ => ex_field (v := .pointer (some ⟨b0, 0, none⟩)) 26 (.tmp 1) 5 (by kernel_rfl) (by kernel_rfl) (by kernel_rfl)) ?_
          refine held_free 23 (.bool ld) rfl (by kernel_rfl) (by kernel_rfl) (by kernel_rfl) (by kernel_rfl) B2 (fun W b => ex_load 4 (.tmp 25) (by kernel_rfl) ⟨b0, 5, none⟩ (by kernel_rfl) (by kernel_rfl) ((HX.out.below b HX.out.lt).cell 5)) ?_
          refine held_call 24 rfl (by kernel_rfl) (by kernel_rfl) (by kernel_rfl) (answer (fits_any dsn ld _ HO.out.dsn) (congrArg Value.bool H2.out)) (fun w' h => bel_in B2 h) ?_
          intro W3 hW3
          have B3 := bel_in B2 hW3
          clear hW3 B2
          refine held_free 25 (.bool true) rfl (by kernel_rfl) (by kernel_rfl) (by kernel_rfl) (by kernel_rfl) B3 (fun _ _ => by kernel_rfl) ?_
          refine held_free 26 (.bool true) rfl (by kernel_rfl) (by kernel_rfl) (by kernel_rfl) (by kernel_rfl) B3 (fun _ _ => by kernel_rfl) ?_
          refine held_free 27 (.pointer (some ⟨b0, 8, none⟩)) rfl (by kernel_rfl) (by kernel_rfl) (by kernel_rfl) (by kernel_rfl) B3 (fun _ _ => ex_field (v := .pointer (some ⟨b0, 0, none⟩)) 26 (.tmp 1) 8 (by kernel_rfl) (by kernel_rfl) (by kernel_rfl)) ?_
          refine held_free 28 (.int .i64 len) rfl (by kernel_rfl) (by kernel_rfl) (by kernel_rfl) (by kernel_rfl) B3 (fun W b => ex_load 3 (.tmp 30) (by kernel_rfl) ⟨b0, 8, none⟩ (by kernel_rfl) (by kernel_rfl) ((HX.out.below b HX.out.lt).cell 8)) ?_
          refine held_free 29 (.bool false) rfl (by kernel_rfl) (by kernel_rfl) (by kernel_rfl) (by kernel_rfl) B3 (fun _ _ => ex_intleb .i64 3 3 (.const (.int .i64 0)) (.tmp 31) (by kernel_rfl) (0) (len) (by kernel_rfl) (by kernel_rfl) (by kernel_rfl) false (H3.out)) ?_
          refine held_free 30 (.bool false) rfl (by kernel_rfl) (by kernel_rfl) (by kernel_rfl) (by kernel_rfl) B3 (fun _ _ => by kernel_rfl) ?_
          refine held_free 31 (.bool false) rfl (by kernel_rfl) (by kernel_rfl) (by kernel_rfl) (by kernel_rfl) B3 (fun _ _ => by kernel_rfl) ?_
          refine held_pass 32 rfl (by kernel_rfl) (by kernel_rfl) (by kernel_rfl) (by kernel_rfl) B3 ?_
          refine held_pass 33 rfl (by kernel_rfl) (by kernel_rfl) (by kernel_rfl) (by kernel_rfl) B3 ?_
          refine held_pass 34 rfl (by kernel_rfl) (by kernel_rfl) (by kernel_rfl) (by kernel_rfl) B3 ?_
          refine held_free 35 (.bool false) rfl (by kernel_rfl) (by kernel_rfl) (by kernel_rfl) (by kernel_rfl) B3 (fun _ _ => by kernel_rfl) ?_
          refine held_free 36 (.bool false) rfl (by kernel_rfl) (by kernel_rfl) (by kernel_rfl) (by kernel_rfl) B3 (fun _ _ => by kernel_rfl) ?_
          refine held_end (by kernel_rfl) ?_
          go_wp2_with fail
          rw [HMM.out]
          exact ret_slot 2 (.bool false) (by kernel_rfl) (by kernel_rfl) (by kernel_rfl) ⟨rfl, by have q := HBV.out.trans (B3.mono HBV.out.size); first | exact q | (rw [HB0.out]; exact q)⟩
      · have H0 := Lib.hid (show deq (⟨fin, true, la, ack, hm, ld, dsn, ssn, len, hs, sum⟩ : Ds) (Ds.bare (⟨fin, true, la, ack, hm, ld, dsn, ssn, len, hs, sum⟩ : Ds)) = true from (deq_iff _ _).2 h0.symm)
        have H1 := Lib.hid (show (la || decide (ack ≤ 4294967295)) = true from h1)
        have H2 := Lib.hid (show (ld || decide (dsn ≤ 4294967295)) = false from Bool.eq_false_iff.2 h2)
        have HX := Lib.hid hx0
        have HO := Lib.hid hx
        have HMM := Lib.hid (show M = false from hM.trans (decide_eq_false fun m => h2 (by have := m.2.2.2.1; simpa using this)))
        have HB0 := Lib.hid hb0
        have HVE := Lib.hid hV
        clear hx0 hb0 hV hx hM
        go_enter Try.func18, Try.ntmps18
        go_upto_region 1 with fail
        rw [← HVE.out, ← HB0.out]
        clear HVE
        have B0 : Below V.heap.size V V.drew := (Below.refl _ V).drew
        refine held_start (fun W => Below V.heap.size V W) (by kernel_rfl) (n := 37) rfl ?_
        obtain ⟨W0, hW0⟩ : ∃ W0, W0 = V.drew := ⟨_, rfl⟩
        rw [← hW0] at B0 ⊢
        clear hW0
        refine held_free 0 (.pointer (some ⟨b0, 1, none⟩)) rfl (by kernel_rfl) (by kernel_rfl) (by kernel_rfl) (by kernel_rfl) B0 (fun _ _ => ex_field (v := .pointer (some ⟨b0, 0, none⟩)) 26 (.tmp 1) 1 (by kernel_rfl) (by kernel_rfl) (by kernel_rfl)) ?_
        refine held_free 1 (.bool true) rfl (by kernel_rfl) (by kernel_rfl) (by kernel_rfl) (by kernel_rfl) B0 (fun W b => ex_load 4 (.tmp 3) (by kernel_rfl) ⟨b0, 1, none⟩ (by kernel_rfl) (by kernel_rfl) ((HX.out.below b HX.out.lt).cell 1)) ?_
        refine held_free 2 (.bool true) rfl (by kernel_rfl) (by kernel_rfl) (by kernel_rfl) (by kernel_rfl) B0 (fun _ _ => by kernel_rfl) ?_
        refine held_pass 3 rfl (by kernel_rfl) (by kernel_rfl) (by kernel_rfl) (by kernel_rfl) B0 ?_
        refine held_pass 4 rfl (by kernel_rfl) (by kernel_rfl) (by kernel_rfl) (by kernel_rfl) B0 ?_
        refine held_free 5 (.bool true) rfl (by kernel_rfl) (by kernel_rfl) (by kernel_rfl) (by kernel_rfl) B0 (fun _ _ => by kernel_rfl) ?_
        refine held_free 6 (.bool true) rfl (by kernel_rfl) (by kernel_rfl) (by kernel_rfl) (by kernel_rfl) B0 (fun _ _ => by kernel_rfl) ?_
        refine held_free 7 (.agg (dsv (⟨fin, true, la, ack, hm, ld, dsn, ssn, len, hs, sum⟩ : Ds))) rfl (by kernel_rfl) (by kernel_rfl) (by kernel_rfl) (by kernel_rfl) B0 (fun W b => exec_row_ 26 (.tmp 1) (by kernel_rfl) b0 (by kernel_rfl) 26 _ (0, 0) _ (HX.out.below b HX.out.lt) Try.underlying26 rfl ds_size) ?_
        refine held_free 8 (.agg (dsv (⟨fin, true, la, ack, hm, ld, dsn, ssn, len, hs, sum⟩ : Ds))) rfl (by kernel_rfl) (by kernel_rfl) (by kernel_rfl) (by kernel_rfl) B0 (fun W b => exec_row_ 26 (.tmp 1) (by kernel_rfl) b0 (by kernel_rfl) 26 _ (0, 0) _ (HX.out.below b HX.out.lt) Try.underlying26 rfl ds_size) ?_
        refine held_call 9 rfl (by kernel_rfl) (by kernel_rfl) (by kernel_rfl) (owned_any (⟨fin, true, la, ack, hm, ld, dsn, ssn, len, hs, sum⟩ : Ds) _) (fun w' h => bel_in B0 h) ?_
        intro W1 hW1
        have B1 := bel_in B0 hW1
        clear hW1 B0
        refine held_free 10 (.bool true) rfl (by kernel_rfl) (by kernel_rfl) (by kernel_rfl) (by kernel_rfl) B1 (fun W b => ex_aggeq 26 26 (.tmp 10) (.tmp 12) (by kernel_rfl) ((dsv (⟨fin, true, la, ack, hm, ld, dsn, ssn, len, hs, sum⟩ : Ds))) ((dsv (Ds.bare (⟨fin, true, la, ack, hm, ld, dsn, ssn, len, hs, sum⟩ : Ds)))) (by kernel_rfl) (by kernel_rfl) (by kernel_rfl) true (ds_equal_b _ _ true H0.out W)) ?_
        refine held_free 11 (.bool true) rfl (by kernel_rfl) (by kernel_rfl) (by kernel_rfl) (by kernel_rfl) B1 (fun _ _ => by kernel_rfl) ?_
        refine held_free 12 (.bool true) rfl (by kernel_rfl) (by kernel_rfl) (by kernel_rfl) (by kernel_rfl) B1 (fun _ _ => by kernel_rfl) ?_
        refine held_free 13 (.pointer (some ⟨b0, 3, none⟩)) rfl (by kernel_rfl) (by kernel_rfl) (by kernel_rfl) (by kernel_rfl) B1 (fun _ _ => ex_field (v := .pointer (some ⟨b0, 0, none⟩)) 26 (.tmp 1) 3 (by kernel_rfl) (by kernel_rfl) (by kernel_rfl)) ?_
        refine held_free 14 (.int .u64 (ack : Int)) rfl (by kernel_rfl) (by kernel_rfl) (by kernel_rfl) (by kernel_rfl) B1 (fun W b => ex_load 22 (.tmp 16) (by kernel_rfl) ⟨b0, 3, none⟩ (by kernel_rfl) (by kernel_rfl) ((HX.out.below b HX.out.lt).cell 3)) ?_
        refine held_free 15 (.pointer (some ⟨b0, 2, none⟩)) rfl (by kernel_rfl) (by kernel_rfl) (by kernel_rfl) (by kernel_rfl) B1 (fun _ _ => ex_field (v := .pointer (some ⟨b0, 0, none⟩)) 26 (.tmp 1) 2 (by kernel_rfl) (by kernel_rfl) (by kernel_rfl)) ?_
        refine held_free 16 (.bool la) rfl (by kernel_rfl) (by kernel_rfl) (by kernel_rfl) (by kernel_rfl) B1 (fun W b => ex_load 4 (.tmp 18) (by kernel_rfl) ⟨b0, 2, none⟩ (by kernel_rfl) (by kernel_rfl) ((HX.out.below b HX.out.lt).cell 2)) ?_
        refine held_call 17 rfl (by kernel_rfl) (by kernel_rfl) (by kernel_rfl) (answer (fits_any ack la _ HO.out.ack) (congrArg Value.bool H1.out)) (fun w' h => bel_in B1 h) ?_
        intro W2 hW2
        have B2 := bel_in B1 hW2
        clear hW2 B1
        refine held_free 18 (.bool true) rfl (by kernel_rfl) (by kernel_rfl) (by kernel_rfl) (by kernel_rfl) B2 (fun _ _ => by kernel_rfl) ?_
        refine held_free 19 (.bool true) rfl (by kernel_rfl) (by kernel_rfl) (by kernel_rfl) (by kernel_rfl) B2 (fun _ _ => by kernel_rfl) ?_
        refine held_free 20 (.pointer (some ⟨b0, 6, none⟩)) rfl (by kernel_rfl) (by kernel_rfl) (by kernel_rfl) (by kernel_rfl) B2 (fun _ _ => ex_field (v := .pointer (some ⟨b0, 0, none⟩)) 26 (.tmp 1) 6 (by kernel_rfl) (by kernel_rfl) (by kernel_rfl)) ?_
        refine held_free 21 (.int .u64 (dsn : Int)) rfl (by kernel_rfl) (by kernel_rfl) (by kernel_rfl) (by kernel_rfl) B2 (fun W b => ex_load 22 (.tmp 23) (by kernel_rfl) ⟨b0, 6, none⟩ (by kernel_rfl) (by kernel_rfl) ((HX.out.below b HX.out.lt).cell 6)) ?_
        refine held_free 22 (.pointer (some ⟨b0, 5, none⟩)) rfl (by kernel_rfl) (by kernel_rfl) (by kernel_rfl) (by kernel_rfl) B2 (fun _ _ => ex_field (v := .pointer (some ⟨b0, 0, none⟩)) 26 (.tmp 1) 5 (by kernel_rfl) (by kernel_rfl) (by kernel_rfl)) ?_
        refine held_free 23 (.bool ld) rfl (by kernel_rfl) (by kernel_rfl) (by kernel_rfl) (by kernel_rfl) B2 (fun W b => ex_load 4 (.tmp 25) (by kernel_rfl) ⟨b0, 5, none⟩ (by kernel_rfl) (by kernel_rfl) ((HX.out.below b HX.out.lt).cell 5)) ?_
        refine held_call 24 rfl (by kernel_rfl) (by kernel_rfl) (by kernel_rfl) (answer (fits_any dsn ld _ HO.out.dsn) (congrArg Value.bool H2.out)) (fun w' h => bel_in B2 h) ?_
        intro W3 hW3
        have B3 := bel_in B2 hW3
        clear hW3 B2
        refine held_free 25 (.bool false) rfl (by kernel_rfl) (by kernel_rfl) (by kernel_rfl) (by kernel_rfl) B3 (fun _ _ => by kernel_rfl) ?_
        refine held_free 26 (.bool false) rfl (by kernel_rfl) (by kernel_rfl) (by kernel_rfl) (by kernel_rfl) B3 (fun _ _ => by kernel_rfl) ?_
        refine held_pass 27 rfl (by kernel_rfl) (by kernel_rfl) (by kernel_rfl) (by kernel_rfl) B3 ?_
        refine held_pass 28 rfl (by kernel_rfl) (by kernel_rfl) (by kernel_rfl) (by kernel_rfl) B3 ?_
        refine held_pass 29 rfl (by kernel_rfl) (by kernel_rfl) (by kernel_rfl) (by kernel_rfl) B3 ?_
        refine held_free 30 (.bool false) rfl (by kernel_rfl) (by kernel_rfl) (by kernel_rfl) (by kernel_rfl) B3 (fun _ _ => by kernel_rfl) ?_
        refine held_free 31 (.bool false) rfl (by kernel_rfl) (by kernel_rfl) (by kernel_rfl) (by kernel_rfl) B3 (fun _ _ => by kernel_rfl) ?_
        refine held_pass 32 rfl (by kernel_rfl) (by kernel_rfl) (by kernel_rfl) (by kernel_rfl) B3 ?_
        refine held_pass 33 rfl (by kernel_rfl) (by kernel_rfl) (by kernel_rfl) (by kernel_rfl) B3 ?_
        refine held_pass 34 rfl (by kernel_rfl) (by kernel_rfl) (by kernel_rfl) (by kernel_rfl) B3 ?_
        refine held_free 35 (.bool false) rfl (by kernel_rfl) (by kernel_rfl) (by kernel_rfl) (by kernel_rfl) B3 (fun _ _ => by kernel_rfl) ?_
        refine held_free 36 (.bool false) rfl (by kernel_rfl) (by kernel_rfl) (by kernel_rfl) (by kernel_rfl) B3 (fun _ _ => by kernel_rfl) ?_
        refine held_end (by kernel_rfl) ?_
        go_wp2_with fail
        rw [HMM.out]
        exact ret_slot 2 (.bool false) (by kernel_rfl) (by kernel_rfl) (by kernel_rfl) ⟨rfl, by have q := HBV.out.trans (B3.mono HBV.out.size); first | exact q | (rw [HB0.out]; exact q)⟩
    · have H0 := Lib.hid (show deq (⟨fin, true, la, ack, hm, ld, dsn, ssn, len, hs, sum⟩ : Ds) (Ds.bare (⟨fin, true, la, ack, hm, ld, dsn, ssn, len, hs, sum⟩ : Ds)) = true from (deq_iff _ _).2 h0.symm)
      have H1 := Lib.hid (show (la || decide (ack ≤ 4294967295)) = false from Bool.eq_false_iff.2 h1)
      have HX := Lib.hid hx0
      have HO := Lib.hid hx
      have HMM := Lib.hid (show M = false from hM.trans (decide_eq_false fun m => h1 (by have := m.2.2.1; simpa using this)))
      have HB0 := Lib.hid hb0
      have HVE := Lib.hid hV
      clear hx0 hb0 hV hx hM
      go_enter Try.func18, Try.ntmps18
      go_upto_region 1 with fail
      rw [← HVE.out, ← HB0.out]
      clear HVE
      have B0 : Below V.heap.size V V.drew := (Below.refl _ V).drew
      refine held_start (fun W => Below V.heap.size V W) (by kernel_rfl) (n := 37) rfl ?_
      obtain ⟨W0, hW0⟩ : ∃ W0, W0 = V.drew := ⟨_, rfl⟩
      rw [← hW0] at B0 ⊢
      clear hW0
      refine held_free 0 (.pointer (some ⟨b0, 1, none⟩)) rfl (by kernel_rfl) (by kernel_rfl) (by kernel_rfl) (by kernel_rfl) B0 (fun _ _ => ex_field (v := .pointer (some ⟨b0, 0, none⟩)) 26 (.tmp 1) 1 (by kernel_rfl) (by kernel_rfl) (by kernel_rfl)) ?_
      refine held_free 1 (.bool true) rfl (by kernel_rfl) (by kernel_rfl) (by kernel_rfl) (by kernel_rfl) B0 (fun W b => ex_load 4 (.tmp 3) (by kernel_rfl) ⟨b0, 1, none⟩ (by kernel_rfl) (by kernel_rfl) ((HX.out.below b HX.out.lt).cell 1)) ?_
      refine held_free 2 (.bool true) rfl (by kernel_rfl) (by kernel_rfl) (by kernel_rfl) (by kernel_rfl) B0 (fun _ _ => by kernel_rfl) ?_
      refine held_pass 3 rfl (by kernel_rfl) (by kernel_rfl) (by kernel_rfl) (by kernel_rfl) B0 ?_
      refine held_pass 4 rfl (by kernel_rfl) (by kernel_rfl) (by kernel_rfl) (by kernel_rfl) B0 ?_
      refine held_free 5 (.bool true) rfl (by kernel_rfl) (by kernel_rfl) (by kernel_rfl) (by kernel_rfl) B0 (fun _ _ => by kernel_rfl) ?_
      refine held_free 6 (.bool true) rfl (by kernel_rfl) (by kernel_rfl) (by kernel_rfl) (by kernel_rfl) B0 (fun _ _ => by kernel_rfl) ?_
      refine held_free 7 (.agg (dsv (⟨fin, true, la, ack, hm, ld, dsn, ssn, len, hs, sum⟩ : Ds))) rfl (by kernel_rfl) (by kernel_rfl) (by kernel_rfl) (by kernel_rfl) B0 (fun W b => exec_row_ 26 (.tmp 1) (by kernel_rfl) b0 (by kernel_rfl) 26 _ (0, 0) _ (HX.out.below b HX.out.lt) Try.underlying26 rfl ds_size) ?_
      refine held_free 8 (.agg (dsv (⟨fin, true, la, ack, hm, ld, dsn, ssn, len, hs, sum⟩ : Ds))) rfl (by kernel_rfl) (by kernel_rfl) (by kernel_rfl) (by kernel_rfl) B0 (fun W b => exec_row_ 26 (.tmp 1) (by kernel_rfl) b0 (by kernel_rfl) 26 _ (0, 0) _ (HX.out.below b HX.out.lt) Try.underlying26 rfl ds_size) ?_
      refine held_call 9 rfl (by kernel_rfl) (by kernel_rfl) (by kernel_rfl) (owned_any (⟨fin, true, la, ack, hm, ld, dsn, ssn, len, hs, sum⟩ : Ds) _) (fun w' h => bel_in B0 h) ?_
      intro W1 hW1
      have B1 := bel_in B0 hW1
      clear hW1 B0
      refine held_free 10 (.bool true) rfl (by kernel_rfl) (by kernel_rfl) (by kernel_rfl) (by kernel_rfl) B1 (fun W b => ex_aggeq 26 26 (.tmp 10) (.tmp 12) (by kernel_rfl) ((dsv (⟨fin, true, la, ack, hm, ld, dsn, ssn, len, hs, sum⟩ : Ds))) ((dsv (Ds.bare (⟨fin, true, la, ack, hm, ld, dsn, ssn, len, hs, sum⟩ : Ds)))) (by kernel_rfl) (by kernel_rfl) (by kernel_rfl) true (ds_equal_b _ _ true H0.out W)) ?_
      refine held_free 11 (.bool true) rfl (by kernel_rfl) (by kernel_rfl) (by kernel_rfl) (by kernel_rfl) B1 (fun _ _ => by kernel_rfl) ?_
      refine held_free 12 (.bool true) rfl (by kernel_rfl) (by kernel_rfl) (by kernel_rfl) (by kernel_rfl) B1 (fun _ _ => by kernel_rfl) ?_
      refine held_free 13 (.pointer (some ⟨b0, 3, none⟩)) rfl (by kernel_rfl) (by kernel_rfl) (by kernel_rfl) (by kernel_rfl) B1 (fun _ _ => ex_field (v := .pointer (some ⟨b0, 0, none⟩)) 26 (.tmp 1) 3 (by kernel_rfl) (by kernel_rfl) (by kernel_rfl)) ?_
      refine held_free 14 (.int .u64 (ack : Int)) rfl (by kernel_rfl) (by kernel_rfl) (by kernel_rfl) (by kernel_rfl) B1 (fun W b => ex_load 22 (.tmp 16) (by kernel_rfl) ⟨b0, 3, none⟩ (by kernel_rfl) (by kernel_rfl) ((HX.out.below b HX.out.lt).cell 3)) ?_
      refine held_free 15 (.pointer (some ⟨b0, 2, none⟩)) rfl (by kernel_rfl) (by kernel_rfl) (by kernel_rfl) (by kernel_rfl) B1 (fun _ _ => ex_field (v := .pointer (some ⟨b0, 0, none⟩)) 26 (.tmp 1) 2 (by kernel_rfl) (by kernel_rfl) (by kernel_rfl)) ?_
      refine held_free 16 (.bool la) rfl (by kernel_rfl) (by kernel_rfl) (by kernel_rfl) (by kernel_rfl) B1 (fun W b => ex_load 4 (.tmp 18) (by kernel_rfl) ⟨b0, 2, none⟩ (by kernel_rfl) (by kernel_rfl) ((HX.out.below b HX.out.lt).cell 2)) ?_
      refine held_call 17 rfl (by kernel_rfl) (by kernel_rfl) (by kernel_rfl) (answer (fits_any ack la _ HO.out.ack) (congrArg Value.bool H1.out)) (fun w' h => bel_in B1 h) ?_
      intro W2 hW2
      have B2 := bel_in B1 hW2
      clear hW2 B1
      refine held_free 18 (.bool false) rfl (by kernel_rfl) (by kernel_rfl) (by kernel_rfl) (by kernel_rfl) B2 (fun _ _ => by kernel_rfl) ?_
      refine held_free 19 (.bool false) rfl (by kernel_rfl) (by kernel_rfl) (by kernel_rfl) (by kernel_rfl) B2 (fun _ _ => by kernel_rfl) ?_
      refine held_pass 20 rfl (by kernel_rfl) (by kernel_rfl) (by kernel_rfl) (by kernel_rfl) B2 ?_
      refine held_pass 21 rfl (by kernel_rfl) (by kernel_rfl) (by kernel_rfl) (by kernel_rfl) B2 ?_
      refine held_pass 22 rfl (by kernel_rfl) (by kernel_rfl) (by kernel_rfl) (by kernel_rfl) B2 ?_
      refine held_pass 23 rfl (by kernel_rfl) (by kernel_rfl) (by kernel_rfl) (by kernel_rfl) B2 ?_
      refine held_pass 24 rfl (by kernel_rfl) (by kernel_rfl) (by kernel_rfl) (by kernel_rfl) B2 ?_
      refine held_free 25 (.bool false) rfl (by kernel_rfl) (by kernel_rfl) (by kernel_rfl) (by kernel_rfl) B2 (fun _ _ => by kernel_rfl) ?_
      refine held_free 26 (.bool false) rfl (by kernel_rfl) (by kernel_rfl) (by kernel_rfl) (by kernel_rfl) B2 (fun _ _ => by kernel_rfl) ?_
      refine held_pass 27 rfl (by kernel_rfl) (by kernel_rfl) (by kernel_rfl) (by kernel_rfl) B2 ?_
      refine held_pass 28 rfl (by kernel_rfl) (by kernel_rfl) (by kernel_rfl) (by kernel_rfl) B2 ?_
      refine held_pass 29 rfl (by kernel_rfl) (by kernel_rfl) (by kernel_rfl) (by kernel_rfl) B2 ?_
      refine held_free 30 (.bool false) rfl (by kernel_rfl) (by kernel_rfl) (by kernel_rfl) (by kernel_rfl) B2 (fun _ _ => by kernel_rfl) ?_
      refine held_free 31 (.bool false) rfl (by kernel_rfl) (by kernel_rfl) (by kernel_rfl) (by kernel_rfl) B2 (fun _ _ => by kernel_rfl) ?_
      refine held_pass 32 rfl (by kernel_rfl) (by kernel_rfl) (by kernel_rfl) (by kernel_rfl) B2 ?_
      refine held_pass 33 rfl (by kernel_rfl) (by kernel_rfl) (by kernel_rfl) (by kernel_rfl) B2 ?_
      refine held_pass 34 rfl (by kernel_rfl) (by kernel_rfl) (by kernel_rfl) (by kernel_rfl) B2 ?_
      refine held_free 35 (.bool false) rfl (by kernel_rfl) (by kernel_rfl) (by kernel_rfl) (by kernel_rfl) B2 (fun _ _ => by kernel_rfl) ?_
      refine held_free 36 (.bool false) rfl (by kernel_rfl) (by kernel_rfl) (by kernel_rfl) (by kernel_rfl) B2 (fun _ _ => by kernel_rfl) ?_
      refine held_end (by kernel_rfl) ?_
      go_wp2_with fail
      rw [HMM.out]
      exact ret_slot 2 (.bool false) (by kernel_rfl) (by kernel_rfl) (by kernel_rfl) ⟨rfl, by have q := HBV.out.trans (B2.mono HBV.out.size); first | exact q | (rw [HB0.out]; exact q)⟩
  · have H0 := Lib.hid (show deq (⟨fin, true, la, ack, hm, ld, dsn, ssn, len, hs, sum⟩ : Ds) (Ds.bare (⟨fin, true, la, ack, hm, ld, dsn, ssn, len, hs, sum⟩ : Ds)) = false from deq_ne fun q => h0 q.symm)
    have HX := Lib.hid hx0
    have HO := Lib.hid hx
    have HMM := Lib.hid (show M = false from hM.trans (decide_eq_false fun m => h0 ((Ds.bare_iff _).2 m.2.1)))
    have HB0 := Lib.hid hb0
    have HVE := Lib.hid hV
    clear hx0 hb0 hV hx hM
    go_enter Try.func18, Try.ntmps18
    go_upto_region 1 with fail
    rw [← HVE.out, ← HB0.out]
    clear HVE
    have B0 : Below V.heap.size V V.drew := (Below.refl _ V).drew
    refine held_start (fun W => Below V.heap.size V W) (by kernel_rfl) (n := 37) rfl ?_
    obtain ⟨W0, hW0⟩ : ∃ W0, W0 = V.drew := ⟨_, rfl⟩
    rw [← hW0] at B0 ⊢
    clear hW0
    refine held_free 0 (.pointer (some ⟨b0, 1, none⟩)) rfl (by kernel_rfl) (by kernel_rfl) (by kernel_rfl) (by kernel_rfl) B0 (fun _ _ => ex_field (v := .pointer (some ⟨b0, 0, none⟩)) 26 (.tmp 1) 1 (by kernel_rfl) (by kernel_rfl) (by kernel_rfl)) ?_
    refine held_free 1 (.bool true) rfl (by kernel_rfl) (by kernel_rfl) (by kernel_rfl) (by kernel_rfl) B0 (fun W b => ex_load 4 (.tmp 3) (by kernel_rfl) ⟨b0, 1, none⟩ (by kernel_rfl) (by kernel_rfl) ((HX.out.below b HX.out.lt).cell 1)) ?_
    refine held_free 2 (.bool true) rfl (by kernel_rfl) (by kernel_rfl) (by kernel_rfl) (by kernel_rfl) B0 (fun _ _ => by kernel_rfl) ?_
    refine held_pass 3 rfl (by kernel_rfl) (by kernel_rfl) (by kernel_rfl) (by kernel_rfl) B0 ?_
    refine held_pass 4 rfl (by kernel_rfl) (by kernel_rfl) (by kernel_rfl) (by kernel_rfl) B0 ?_
    refine held_free 5 (.bool true) rfl (by kernel_rfl) (by kernel_rfl) (by kernel_rfl) (by kernel_rfl) B0 (fun _ _ => by kernel_rfl) ?_
    refine held_free 6 (.bool true) rfl (by kernel_rfl) (by kernel_rfl) (by kernel_rfl) (by kernel_rfl) B0 (fun _ _ => by kernel_rfl) ?_
    refine held_free 7 (.agg (dsv (⟨fin, true, la, ack, hm, ld, dsn, ssn, len, hs, sum⟩ : Ds))) rfl (by kernel_rfl) (by kernel_rfl) (by kernel_rfl) (by kernel_rfl) B0 (fun W b => exec_row_ 26 (.tmp 1) (by kernel_rfl) b0 (by kernel_rfl) 26 _ (0, 0) _ (HX.out.below b HX.out.lt) Try.underlying26 rfl ds_size) ?_
    refine held_free 8 (.agg (dsv (⟨fin, true, la, ack, hm, ld, dsn, ssn, len, hs, sum⟩ : Ds))) rfl (by kernel_rfl) (by kernel_rfl) (by kernel_rfl) (by kernel_rfl) B0 (fun W b => exec_row_ 26 (.tmp 1) (by kernel_rfl) b0 (by kernel_rfl) 26 _ (0, 0) _ (HX.out.below b HX.out.lt) Try.underlying26 rfl ds_size) ?_
    refine held_call 9 rfl (by kernel_rfl) (by kernel_rfl) (by kernel_rfl) (owned_any (⟨fin, true, la, ack, hm, ld, dsn, ssn, len, hs, sum⟩ : Ds) _) (fun w' h => bel_in B0 h) ?_
    intro W1 hW1
    have B1 := bel_in B0 hW1
    clear hW1 B0
    refine held_free 10 (.bool false) rfl (by kernel_rfl) (by kernel_rfl) (by kernel_rfl) (by kernel_rfl) B1 (fun W b => ex_aggeq 26 26 (.tmp 10) (.tmp 12) (by kernel_rfl) ((dsv (⟨fin, true, la, ack, hm, ld, dsn, ssn, len, hs, sum⟩ : Ds))) ((dsv (Ds.bare (⟨fin, true, la, ack, hm, ld, dsn, ssn, len, hs, sum⟩ : Ds)))) (by kernel_rfl) (by kernel_rfl) (by kernel_rfl) false (ds_equal_b _ _ false H0.out W)) ?_
    refine held_free 11 (.bool false) rfl (by kernel_rfl) (by kernel_rfl) (by kernel_rfl) (by kernel_rfl) B1 (fun _ _ => by kernel_rfl) ?_
    refine held_free 12 (.bool false) rfl (by kernel_rfl) (by kernel_rfl) (by kernel_rfl) (by kernel_rfl) B1 (fun _ _ => by kernel_rfl) ?_
    refine held_pass 13 rfl (by kernel_rfl) (by kernel_rfl) (by kernel_rfl) (by kernel_rfl) B1 ?_
    refine held_pass 14 rfl (by kernel_rfl) (by kernel_rfl) (by kernel_rfl) (by kernel_rfl) B1 ?_
    refine held_pass 15 rfl (by kernel_rfl) (by kernel_rfl) (by kernel_rfl) (by kernel_rfl) B1 ?_
    refine held_pass 16 rfl (by kernel_rfl) (by kernel_rfl) (by kernel_rfl) (by kernel_rfl) B1 ?_
    refine held_pass 17 rfl (by kernel_rfl) (by kernel_rfl) (by kernel_rfl) (by kernel_rfl) B1 ?_
    refine held_free 18 (.bool false) rfl (by kernel_rfl) (by kernel_rfl) (by kernel_rfl) (by kernel_rfl) B1 (fun _ _ => by kernel_rfl) ?_
    refine held_free 19 (.bool false) rfl (by kernel_rfl) (by kernel_rfl) (by kernel_rfl) (by kernel_rfl) B1 (fun _ _ => by kernel_rfl) ?_
    refine held_pass 20 rfl (by kernel_rfl) (by kernel_rfl) (by kernel_rfl) (by kernel_rfl) B1 ?_
    refine held_pass 21 rfl (by kernel_rfl) (by kernel_rfl) (by kernel_rfl) (by kernel_rfl) B1 ?_
    refine held_pass 22 rfl (by kernel_rfl) (by kernel_rfl) (by kernel_rfl) (by kernel_rfl) B1 ?_
    refine held_pass 23 rfl (by kernel_rfl) (by kernel_rfl) (by kernel_rfl) (by kernel_rfl) B1 ?_
    refine held_pass 24 rfl (by kernel_rfl) (by kernel_rfl) (by kernel_rfl) (by kernel_rfl) B1 ?_
    refine held_free 25 (.bool false) rfl (by kernel_rfl) (by kernel_rfl) (by kernel_rfl) (by kernel_rfl) B1 (fun _ _ => by kernel_rfl) ?_
    refine held_free 26 (.bool false) rfl (by kernel_rfl) (by kernel_rfl) (by kernel_rfl) (by kernel_rfl) B1 (fun _ _ => by kernel_rfl) ?_
    refine held_pass 27 rfl (by kernel_rfl) (by kernel_rfl) (by kernel_rfl) (by kernel_rfl) B1 ?_
    refine held_pass 28 rfl (by kernel_rfl) (by kernel_rfl) (by kernel_rfl) (by kernel_rfl) B1 ?_
    refine held_pass 29 rfl (by kernel_rfl) (by kernel_rfl) (by kernel_rfl) (by kernel_rfl) B1 ?_
    refine held_free 30 (.bool false) rfl (by kernel_rfl) (by kernel_rfl) (by kernel_rfl) (by kernel_rfl) B1 (fun _ _ => by kernel_rfl) ?_
    refine held_free 31 (.bool false) rfl (by kernel_rfl) (by kernel_rfl) (by kernel_rfl) (by kernel_rfl) B1 (fun _ _ => by kernel_rfl) ?_
    refine held_pass 32 rfl (by kernel_rfl) (by kernel_rfl) (by kernel_rfl) (by kernel_rfl) B1 ?_
    refine held_pass 33 rfl (by kernel_rfl) (by kernel_rfl) (by kernel_rfl) (by kernel_rfl) B1 ?_
    refine held_pass 34 rfl (by kernel_rfl) (by kernel_rfl) (by kernel_rfl) (by kernel_rfl) B1 ?_
    refine held_free 35 (.bool false) rfl (by kernel_rfl) (by kernel_rfl) (by kernel_rfl) (by kernel_rfl) B1 (fun _ _ => by kernel_rfl) ?_
    refine held_free 36 (.bool false) rfl (by kernel_rfl) (by kernel_rfl) (by kernel_rfl) (by kernel_rfl) B1 (fun _ _ => by kernel_rfl) ?_
    refine held_end (by kernel_rfl) ?_
    go_wp2_with fail
    rw [HMM.out]
    exact ret_slot 2 (.bool false) (by kernel_rfl) (by kernel_rfl) (by kernel_rfl) ⟨rfl, by have q := HBV.out.trans (B1.mono HBV.out.size); first | exact q | (rw [HB0.out]; exact q)⟩
set_option maxHeartbeats 1000000 in
set_option maxRecDepth 100000 in
theorem valid_map (fin : Bool) (la : Bool) (ack : Nat) (ld : Bool) (dsn : Nat) (ssn : Nat) (len : Int) (hs : Bool) (sum : Nat) (hx : Ds.Ok (⟨fin, false, la, ack, true, ld, dsn, ssn, len, hs, sum⟩ : Ds)) (w : World) :
    Calls Try.prog 18 #[.agg (dsv (⟨fin, false, la, ack, true, ld, dsn, ssn, len, hs, sum⟩ : Ds))] w fun e w' => e = .returned (.bool (decide (Ds.May (⟨fin, false, la, ack, true, ld, dsn, ssn, len, hs, sum⟩ : Ds)))) ∧ Below w.heap.size w w' := by
  obtain ⟨V, hV⟩ : ∃ V, V = w.alloc (.cells (dsv (⟨fin, false, la, ack, true, ld, dsn, ssn, len, hs, sum⟩ : Ds)) 26) := ⟨_, rfl⟩
  obtain ⟨b0, hb0⟩ : ∃ b0, b0 = w.heap.size := ⟨_, rfl⟩
  obtain ⟨M, hM⟩ : ∃ M, M = decide (Ds.May (⟨fin, false, la, ack, true, ld, dsn, ssn, len, hs, sum⟩ : Ds)) := ⟨_, rfl⟩
  rw [← hM]
  have HBV := Lib.hid (show Below w.heap.size w V by rw [hV]; exact (Below.refl _ w).alloc (Nat.le_refl _) _)
  have hx0 : Blk V b0 26 (dsv (⟨fin, false, la, ack, true, ld, dsn, ssn, len, hs, sum⟩ : Ds)) := by rw [hV, hb0]; exact Blk.new _ _ _
  by_cases h0 : Ds.bare (⟨fin, false, la, ack, true, ld, dsn, ssn, len, hs, sum⟩ : Ds) = (⟨fin, false, la, ack, true, ld, dsn, ssn, len, hs, sum⟩ : Ds)
  · by_cases h1 : (la || decide (ack ≤ 4294967295)) = true
    · by_cases h2 : (ld || decide (dsn ≤ 4294967295)) = true
      · by_cases h3 : 0 ≤ len
        · by_cases h4 : len ≤ 65535
          · have H0 := Lib.hid (show deq (⟨fin, false, la, ack, true, ld, dsn, ssn, len, hs, sum⟩ : Ds) (Ds.bare (⟨fin, false, la, ack, true, ld, dsn, ssn, len, hs, sum⟩ : Ds)) = true from (deq_iff _ _).2 h0.symm)
            have H1 := Lib.hid (show (la || decide (ack ≤ 4294967295)) = true from h1)
            have H2 := Lib.hid (show (ld || decide (dsn ≤ 4294967295)) = true from h2)
            have H3 := Lib.hid (show decide (0 ≤ len) = true from decide_eq_true h3)
            have H4 := Lib.hid (show decide (len ≤ 65535) = true from decide_eq_true h4)
            have HX := Lib.hid hx0
            have HO := Lib.hid hx
            have HMM := Lib.hid (show M = true from hM.trans (decide_eq_true ⟨.inr rfl, (Ds.bare_iff _).1 h0, by simpa using h1, by simpa using h2, h3, h4⟩))
            have HB0 := Lib.hid hb0
            have HVE := Lib.hid hV
            clear hx0 hb0 hV hx hM
            go_enter Try.func18, Try.ntmps18
            go_upto_region 1 with fail
            rw [← HVE.out, ← HB0.out]
            clear HVE
            have B0 : Below V.heap.size V V.drew := (Below.refl _ V).drew
            refine held_start (fun W => Below V.heap.size V W) (by kernel_rfl) (n := 37) rfl ?_
            obtain ⟨W0, hW0⟩ : ∃ W0, W0 = V.drew := ⟨_, rfl⟩
            rw [← hW0] at B0 ⊢
            clear hW0
            refine held_free 0 (.pointer (some ⟨b0, 1, none⟩)) rfl (by kernel_rfl) (by kernel_rfl) (by kernel_rfl) (by kernel_rfl) B0 (fun _ _ => ex_field (v := .pointer (some ⟨b0, 0, none⟩)) 26 (.tmp 1) 1 (by kernel_rfl) (by kernel_rfl) (by kernel_rfl)) ?_
            refine held_free 1 (.bool false) rfl (by kernel_rfl) (by kernel_rfl) (by kernel_rfl) (by kernel_rfl) B0 (fun W b => ex_load 4 (.tmp 3) (by kernel_rfl) ⟨b0, 1, none⟩ (by kernel_rfl) (by kernel_rfl) ((HX.out.below b HX.out.lt).cell 1)) ?_
            refine held_free 2 (.bool false) rfl (by kernel_rfl) (by kernel_rfl) (by kernel_rfl) (by kernel_rfl) B0 (fun _ _ => by kernel_rfl) ?_
            refine held_free 3 (.pointer (some ⟨b0, 4, none⟩)) rfl (by kernel_rfl) (by kernel_rfl) (by kernel_rfl) (by kernel_rfl) B0 (fun _ _ => ex_field (v := .pointer (some ⟨b0, 0, none⟩)) 26 (.tmp 1) 4 (by kernel_rfl) (by kernel_rfl) (by kernel_rfl)) ?_
            refine held_free 4 (.bool true) rfl (by kernel_rfl) (by kernel_rfl) (by kernel_rfl) (by kernel_rfl) B0 (fun W b => ex_load 4 (.tmp 6) (by kernel_rfl) ⟨b0, 4, none⟩ (by kernel_rfl) (by kernel_rfl) ((HX.out.below b HX.out.lt).cell 4)) ?_
            refine held_free 5 (.bool true) rfl (by kernel_rfl) (by kernel_rfl) (by kernel_rfl) (by kernel_rfl) B0 (fun _ _ => by kernel_rfl) ?_
            refine held_free 6 (.bool true) rfl (by kernel_rfl) (by kernel_rfl) (by kernel_rfl) (by kernel_rfl) B0 (fun _ _ => by kernel_rfl) ?_
            refine held_free 7 (.agg (dsv (⟨fin, false, la, ack, true, ld, dsn, ssn, len, hs, sum⟩ : Ds))) rfl (by kernel_rfl) (by kernel_rfl) (by kernel_rfl) (by kernel_rfl) B0 (fun W b => exec_row_ 26 (.tmp 1) (by kernel_rfl) b0 (by kernel_rfl) 26 _ (0, 0) _ (HX.out.below b HX.out.lt) Try.underlying26 rfl ds_size) ?_
            refine held_free 8 (.agg (dsv (⟨fin, false, la, ack, true, ld, dsn, ssn, len, hs, sum⟩ : Ds))) rfl (by kernel_rfl) (by kernel_rfl) (by kernel_rfl) (by kernel_rfl) B0 (fun W b => exec_row_ 26 (.tmp 1) (by kernel_rfl) b0 (by kernel_rfl) 26 _ (0, 0) _ (HX.out.below b HX.out.lt) Try.underlying26 rfl ds_size) ?_
            refine held_call 9 rfl (by kernel_rfl) (by kernel_rfl) (by kernel_rfl) (owned_any (⟨fin, false, la, ack, true, ld, dsn, ssn, len, hs, sum⟩ : Ds) _) (fun w' h => bel_in B0 h) ?_
            intro W1 hW1
            have B1 := bel_in B0 hW1
            clear hW1 B0
            refine held_free 10 (.bool true) rfl (by kernel_rfl) (by kernel_rfl) (by kernel_rfl) (by kernel_rfl) B1 (fun W b => ex_aggeq 26 26 (.tmp 10) (.tmp 12) (by kernel_rfl) ((dsv (⟨fin, false, la, ack, true, ld, dsn, ssn, len, hs, sum⟩ : Ds))) ((dsv (Ds.bare (⟨fin, false, la, ack, true, ld, dsn, ssn, len, hs, sum⟩ : Ds)))) (by kernel_rfl) (by kernel_rfl) (by kernel_rfl) true (ds_equal_b _ _ true H0.out W)) ?_
            refine held_free 11 (.bool true) rfl (by kernel_rfl) (by kernel_rfl) (by kernel_rfl) (by kernel_rfl) B1 (fun _ _ => by kernel_rfl) ?_
            refine held_free 12 (.bool true) rfl (by kernel_rfl) (by kernel_rfl) (by kernel_rfl) (by kernel_rfl) B1 (fun _ _ => by kernel_rfl) ?_
            refine held_free 13 (.pointer (some ⟨b0, 3, none⟩)) rfl (by kernel_rfl) (by kernel_rfl) (by kernel_rfl) (by kernel_rfl) B1 (fun _ _ => ex_field (v := .pointer (some ⟨b0, 0, none⟩)) 26 (.tmp 1) 3 (by kernel_rfl) (by kernel_rfl) (by kernel_rfl)) ?_
            refine held_free 14 (.int .u64 (ack : Int)) rfl (by kernel_rfl) (by kernel_rfl) (by kernel_rfl) (by kernel_rfl) B1 (fun W b => ex_load 22 (.tmp 16) (by kernel_rfl) ⟨b0, 3, none⟩ (by kernel_rfl) (by kernel_rfl) ((HX.out.below b HX.out.lt).cell 3)) ?_
            refine held_free 15 (.pointer (some ⟨b0, 2, none⟩)) rfl (by kernel_rfl) (by kernel_rfl) (by kernel_rfl) (by kernel_rfl) B1 (fun _ _ => ex_field (v := .pointer (some ⟨b0, 0, none⟩)) 26 (.tmp 1) 2 (by kernel_rfl) (by kernel_rfl) (by kernel_rfl)) ?_
            refine held_free 16 (.bool la) rfl (by kernel_rfl) (by kernel_rfl) (by kernel_rfl) (by kernel_rfl) B1 (fun W b => ex_load 4 (.tmp 18) (by kernel_rfl) ⟨b0, 2, none⟩ (by kernel_rfl) (by kernel_rfl) ((HX.out.below b HX.out.lt).cell 2)) ?_
            refine held_call 17 rfl (by kernel_rfl) (by kernel_rfl) (by kernel_rfl) (answer (fits_any ack la _ HO.out.ack) (congrArg Value.bool H1.out)) (fun w' h => bel_in B1 h) ?_
            intro W2 hW2
            have B2 := bel_in B1 hW2
            clear hW2 B1
            refine held_free 18 (.bool true) rfl (by kernel_rfl) (by kernel_rfl) (by kernel_rfl) (by kernel_rfl) B2 (fun _ _ => by kernel_rfl) ?_
            refine held_free 19 (.bool true) rfl (by kernel_rfl) (by kernel_rfl) (by kernel_rfl) (by kernel_rfl) B2 (fun _ _ => by kernel_rfl) ?_
            refine held_free 20 (.pointer (some ⟨b0, 6, none⟩)) rfl (by kernel_rfl) (by kernel_rfl) (by kernel_rfl) (by kernel_rfl) B2 (fun _ _ => ex_field (v := .pointer (some ⟨b0, 0, none⟩)) 26 (.tmp 1) 6 (by kernel_rfl) (by kernel_rfl) (by kernel_rfl)) ?_
            refine held_free 21 (.int .u64 (dsn : Int)) rfl (by kernel_rfl) (by kernel_rfl) (by kernel_rfl) (by kernel_rfl) B2 (fun W b => ex_load 22 (.tmp 23) (by kernel_rfl) ⟨b0, 6, none⟩ (by kernel_rfl) (by kernel_rfl) ((HX.out.below b HX.out.lt).cell 6)) ?_
            refine held_free 22 (.pointer (some ⟨b0, 5, none⟩)) rfl (by kernel_rfl) (by kernel_rfl) (by kernel_rfl) (by kernel_rfl) B2 (fun _ _ => ex_field (v := .pointer (some ⟨b0, 0, none⟩)) 26 (.tmp 1) 5 (by kernel_rfl) (by kernel_rfl) (by kernel_rfl)) ?_
            refine held_free 23 (.bool ld) rfl (by kernel_rfl) (by kernel_rfl) (by kernel_rfl) (by kernel_rfl) B2 (fun W b => ex_load 4 (.tmp 25) (by kernel_rfl) ⟨b0, 5, none⟩ (by kernel_rfl) (by kernel_rfl) ((HX.out.below b HX.out.lt).cell 5)) ?_
            refine held_call 24 rfl (by kernel_rfl) (by kernel_rfl) (by kernel_rfl) (answer (fits_any dsn ld _ HO.out.dsn) (congrArg Value.bool H2.out)) (fun w' h => bel_in B2 h) ?_
            intro W3 hW3
            have B3 := bel_in B2 hW3
            clear hW3 B2
            refine held_free 25 (.bool true) rfl (by kernel_rfl) (by kernel_rfl) (by kernel_rfl) (by kernel_rfl) B3 (fun _ _ => by kernel_rfl) ?_
            refine held_free 26 (.bool true) rfl (by kernel_rfl) (by kernel_rfl) (by kernel_rfl) (by kernel_rfl) B3 (fun _ _ => by kernel_rfl) ?_
            refine held_free 27 (.pointer (some ⟨b0, 8, none⟩)) rfl (by kernel_rfl) (by kernel_rfl) (by kernel_rfl) (by kernel_rfl) B3 (fun _ _ => ex_field (v := .pointer (some ⟨b0, 0, none⟩)) 26 (.tmp 1) 8 (by kernel_rfl) (by kernel_rfl) (by kernel_rfl)) ?_
            refine held_free 28 (.int .i64 len) rfl (by kernel_rfl) (by kernel_rfl) (by kernel_rfl) (by kernel_rfl) B3 (fun W b => ex_load 3 (.tmp 30) (by kernel_rfl) ⟨b0, 8, none⟩ (by kernel_rfl) (by kernel_rfl) ((HX.out.below b HX.out.lt).cell 8)) ?_
            refine held_free 29 (.bool true) rfl (by kernel_rfl) (by kernel_rfl) (by kernel_rfl) (by kernel_rfl) B3 (fun _ _ => ex_intleb .i64 3 3 (.const (.int .i64 0)) (.tmp 31) (by kernel_rfl) (0) (len) (by kernel_rfl) (by kernel_rfl) (by kernel_rfl) true (H3.out)) ?_
            refine held_free 30 (.bool true) rfl (by kernel_rfl) (by kernel_rfl) (by kernel_rfl) (by kernel_rfl) B3 (fun _ _ => by kernel_rfl) ?_
            refine held_free 31 (.bool true) rfl (by kernel_rfl) (by kernel_rfl) (by kernel_rfl) (by kernel_rfl) B3 (fun _ _ => by kernel_rfl) ?_
            refine held_free 32 (.pointer (some ⟨b0, 8, none⟩)) rfl (by kernel_rfl) (by kernel_rfl) (by kernel_rfl) (by kernel_rfl) B3 (fun _ _ => ex_field (v := .pointer (some ⟨b0, 0, none⟩)) 26 (.tmp 1) 8 (by kernel_rfl) (by kernel_rfl) (by kernel_rfl)) ?_
            refine held_free 33 (.int .i64 len) rfl (by kernel_rfl) (by kernel_rfl) (by kernel_rfl) (by kernel_rfl) B3 (fun W b => ex_load 3 (.tmp 35) (by kernel_rfl) ⟨b0, 8, none⟩ (by kernel_rfl) (by kernel_rfl) ((HX.out.below b HX.out.lt).cell 8)) ?_
            refine held_free 34 (.bool true) rfl (by kernel_rfl) (by kernel_rfl) (by kernel_rfl) (by kernel_rfl) B3 (fun _ _ => ex_intleb .i64 3 3 (.tmp 36) (.const (.int .i64 65535)) (by kernel_rfl) (len) (65535) (by kernel_rfl) (by kernel_rfl) (by kernel_rfl) true (H4.out)) ?_
            refine held_free 35 (.bool true) rfl (by kernel_rfl) (by kernel_rfl) (by kernel_rfl) (by kernel_rfl) B3 (fun _ _ => by kernel_rfl) ?_
            refine held_free 36 (.bool true) rfl (by kernel_rfl) (by kernel_rfl) (by kernel_rfl) (by kernel_rfl) B3 (fun _ _ => by kernel_rfl) ?_
            refine held_end (by kernel_rfl) ?_
            go_wp2_with fail
            rw [HMM.out]
            exact ret_slot 2 (.bool true) (by kernel_rfl) (by kernel_rfl) (by kernel_rfl) ⟨rfl, by have q := HBV.out.trans (B3.mono HBV.out.size); first | exact q | (rw [HB0.out]; exact q)⟩
          · have H0 := Lib.hid (show deq (⟨fin, false, la, ack, true, ld, dsn, ssn, len, hs, sum⟩ : Ds) (Ds.bare (⟨fin, false, la, ack, true, ld, dsn, ssn, len, hs, sum⟩ : Ds)) = true from (deq_iff _ _).2 h0.symm)
            have H1 := Lib.hid (show (la || decide (ack ≤ 4294967295)) = true from h1)
            have H2 := Lib.hid (show (ld || decide (dsn ≤ 4294967295)) = true from h2)
            have H3 := Lib.hid (show decide (0 ≤ len) = true from decide_eq_true h3)
            have H4 := Lib.hid (show decide (len ≤ 65535) = false from decide_eq_false h4)
            have HX := Lib.hid hx0
            have HO := Lib.hid hx
            have HMM := Lib.hid (show M = false from hM.trans (decide_eq_false fun m => h4 m.2.2.2.2.2))
            have HB0 := Lib.hid hb0
            have HVE := Lib.hid hV
            clear hx0 hb0 hV hx hM
            go_enter Try.func18, Try.ntmps18
            go_upto_region 1 with fail
            rw [← HVE.out, ← HB0.out]
            clear HVE
            have B0 : Below V.heap.size V V.drew := (Below.refl _ V).drew
            refine held_start (fun W => Below V.heap.size V W) (by kernel_rfl) (n := 37) rfl ?_
            obtain ⟨W0, hW0⟩ : ∃ W0, W0 = V.drew := ⟨_, rfl⟩
            rw [← hW0] at B0 ⊢
            clear hW0
            refine held_free 0 (.pointer (some ⟨b0, 1, none⟩)) rfl (by kernel_rfl) (by kernel_rfl) (by kernel_rfl) (by kernel_rfl) B0 (fun _ _ => ex_field (v := .pointer (some ⟨b0, 0, none⟩)) 26 (.tmp 1) 1 (by kernel_rfl) (by kernel_rfl) (by kernel_rfl)) ?_
            refine held_free 1 (.bool false) rfl (by kernel_rfl) (by kernel_rfl) (by kernel_rfl) (by kernel_rfl) B0 (fun W b => ex_load 4 (.tmp 3) (by kernel_rfl) ⟨b0, 1, none⟩ (by kernel_rfl) (by kernel_rfl) ((HX.out.below b HX.out.lt).cell 1)) ?_
            refine held_free 2 (.bool false) rfl (by kernel_rfl) (by kernel_rfl) (by kernel_rfl) (by kernel_rfl) B0 (fun _ _ => by kernel_rfl) ?_
            refine held_free 3 (.pointer (some ⟨b0, 4, none⟩)) rfl (by kernel_rfl) (by kernel_rfl) (by kernel_rfl) (by kernel_rfl) B0 (fun _ _ => ex_field (v := .pointer (some ⟨b0, 0, none⟩)) 26 (.tmp 1) 4 (by kernel_rfl) (by kernel_rfl) (by kernel_rfl)) ?_
            refine held_free 4 (.bool true) rfl (by kernel_rfl) (by kernel_rfl) (by kernel_rfl) (by kernel_rfl) B0 (fun W b => ex_load 4 (.tmp 6) (by kernel_rfl) ⟨b0, 4, none⟩ (by kernel_rfl) (by kernel_rfl) ((HX.out.below b HX.out.lt).cell 4)) ?_
            refine held_free 5 (.bool true) rfl (by kernel_rfl) (by kernel_rfl) (by kernel_rfl) (by kernel_rfl) B0 (fun _ _ => by kernel_rfl) ?_
            refine held_free 6 (.bool true) rfl (by kernel_rfl) (by kernel_rfl) (by kernel_rfl) (by kernel_rfl) B0 (fun _ _ => by kernel_rfl) ?_
            refine held_free 7 (.agg (dsv (⟨fin, false, la, ack, true, ld, dsn, ssn, len, hs, sum⟩ : Ds))) rfl (by kernel_rfl) (by kernel_rfl) (by kernel_rfl) (by kernel_rfl) B0 (fun W b => exec_row_ 26 (.tmp 1) (by kernel_rfl) b0 (by kernel_rfl) 26 _ (0, 0) _ (HX.out.below b HX.out.lt) Try.underlying26 rfl ds_size) ?_
            refine held_free 8 (.agg (dsv (⟨fin, false, la, ack, true, ld, dsn, ssn, len, hs, sum⟩ : Ds))) rfl (by kernel_rfl) (by kernel_rfl) (by kernel_rfl) (by kernel_rfl) B0 (fun W b => exec_row_ 26 (.tmp 1) (by kernel_rfl) b0 (by kernel_rfl) 26 _ (0, 0) _ (HX.out.below b HX.out.lt) Try.underlying26 rfl ds_size) ?_
            refine held_call 9 rfl (by kernel_rfl) (by kernel_rfl) (by kernel_rfl) (owned_any (⟨fin, false, la, ack, true, ld, dsn, ssn, len, hs, sum⟩ : Ds) _) (fun w' h => bel_in B0 h) ?_
            intro W1 hW1
            have B1 := bel_in B0 hW1
            clear hW1 B0
            refine held_free 10 (.bool true) rfl (by kernel_rfl) (by kernel_rfl) (by kernel_rfl) (by kernel_rfl) B1 (fun W b => ex_aggeq 26 26 (.tmp 10) (.tmp 12) (by kernel_rfl) ((dsv (⟨fin, false, la, ack, true, ld, dsn, ssn, len, hs, sum⟩ : Ds))) ((dsv (Ds.bare (⟨fin, false, la, ack, true, ld, dsn, ssn, len, hs, sum⟩ : Ds)))) (by kernel_rfl) (by kernel_rfl) (by kernel_rfl) true (ds_equal_b _ _ true H0.out W)) ?_
            refine held_free 11 (.bool true) rfl (by kernel_rfl) (by kernel_rfl) (by kernel_rfl) (by kernel_rfl) B1 (fun _ _ => by kernel_rfl) ?_
            refine held_free 12 (.bool true) rfl (by kernel_rfl) (by kernel_rfl) (by kernel_rfl) (by kernel_rfl) B1 (fun _ _ => by kernel_rfl) ?_
            refine held_free 13 (.pointer (some ⟨b0, 3, none⟩)) rfl (by kernel_rfl) (by kernel_rfl) (by kernel_rfl) (by kernel_rfl) B1 (fun _ _ => ex_field (v := .pointer (some ⟨b0, 0, none⟩)) 26 (.tmp 1) 3 (by kernel_rfl) (by kernel_rfl) (by kernel_rfl)) ?_
            refine held_free 14 (.int .u64 (ack : Int)) rfl (by kernel_rfl) (by kernel_rfl) (by kernel_rfl) (by kernel_rfl) B1 (fun W b => ex_load 22 (.tmp 16) (by kernel_rfl) ⟨b0, 3, none⟩ (by kernel_rfl) (by kernel_rfl) ((HX.out.below b HX.out.lt).cell 3)) ?_
            refine held_free 15 (.pointer (some ⟨b0, 2, none⟩)) rfl (by kernel_rfl) (by kernel_rfl) (by kernel_rfl) (by kernel_rfl) B1 (fun _ _ => ex_field (v := .pointer (some ⟨b0, 0, none⟩)) 26 (.tmp 1) 2 (by kernel_rfl) (by kernel_rfl) (by kernel_rfl)) ?_
            refine held_free 16 (.bool la) rfl (by kernel_rfl) (by kernel_rfl) (by kernel_rfl) (by kernel_rfl) B1 (fun W b => ex_load 4 (.tmp 18) (by kernel_rfl) ⟨b0, 2, none⟩ (by kernel_rfl) (by kernel_rfl) ((HX.out.below b HX.out.lt).cell 2)) ?_
            refine held_call 17 rfl (by kernel_rfl) (by kernel_rfl) (by kernel_rfl) (answer (fits_any ack la _ HO.out.ack) (congrArg Value.bool H1.out)) (fun w' h => bel_in B1 h) ?_
            intro W2 hW2
            have B2 := bel_in B1 hW2
            clear hW2 B1
            refine held_free 18 (.bool true) rfl (by kernel_rfl) (by kernel_rfl) (by kernel_rfl) (by kernel_rfl) B2 (fun _ _ => by kernel_rfl) ?_
            refine held_free 19 (.bool true) rfl (by kernel_rfl) (by kernel_rfl) (by kernel_rfl) (by kernel_rfl) B2 (fun _ _ => by kernel_rfl) ?_
            refine held_free 20 (.pointer (some ⟨b0, 6, none⟩)) rfl (by kernel_rfl) (by kernel_rfl) (by kernel_rfl) (by kernel_rfl) B2 (fun _ _ => ex_field (v := .pointer (some ⟨b0, 0, none⟩)) 26 (.tmp 1) 6 (by kernel_rfl) (by kernel_rfl) (by kernel_rfl)) ?_
            refine held_free 21 (.int .u64 (dsn : Int)) rfl (by kernel_rfl) (by kernel_rfl) (by kernel_rfl) (by kernel_rfl) B2 (fun W b => ex_load 22 (.tmp 23) (by kernel_rfl) ⟨b0, 6, none⟩ (by kernel_rfl) (by kernel_rfl) ((HX.out.below b HX.out.lt).cell 6)) ?_
            refine held_free 22 (.pointer (some ⟨b0, 5, none⟩)) rfl (by kernel_rfl) (by kernel_rfl) (by kernel_rfl) (by kernel_rfl) B2 (fun _ _ => ex_field (v := .pointer (some ⟨b0, 0, none⟩)) 26 (.tmp 1) 5 (by kernel_rfl) (by kernel_rfl) (by kernel_rfl)) ?_
            refine held_free 23 (.bool ld) rfl (by kernel_rfl) (by kernel_rfl) (by kernel_rfl) (by kernel_rfl) B2 (fun W b => ex_load 4 (.tmp 25) (by kernel_rfl) ⟨b0, 5, none⟩ (by kernel_rfl) (by kernel_rfl) ((HX.out.below b HX.out.lt).cell 5)) ?_
            refine held_call 24 rfl (by kernel_rfl) (by kernel_rfl) (by kernel_rfl) (answer (fits_any dsn ld _ HO.out.dsn) (congrArg Value.bool H2.out)) (fun w' h => bel_in B2 h) ?_
            intro W3 hW3
            have B3 := bel_in B2 hW3
            clear hW3 B2
            refine held_free 25 (.bool true) rfl (by kernel_rfl) (by kernel_rfl) (by kernel_rfl) (by kernel_rfl) B3 (fun _ _ => by kernel_rfl) ?_
            refine held_free 26 (.bool true) rfl (by kernel_rfl) (by kernel_rfl) (by kernel_rfl) (by kernel_rfl) B3 (fun _ _ => by kernel_rfl) ?_
            refine held_free 27 (.pointer (some ⟨b0, 8, none⟩)) rfl (by kernel_rfl) (by kernel_rfl) (by kernel_rfl) (by kernel_rfl) B3 (fun _ _ => ex_field (v := .pointer (some ⟨b0, 0, none⟩)) 26 (.tmp 1) 8 (by kernel_rfl) (by kernel_rfl) (by kernel_rfl)) ?_
            refine held_free 28 (.int .i64 len) rfl (by kernel_rfl) (by kernel_rfl) (by kernel_rfl) (by kernel_rfl) B3 (fun W b => ex_load 3 (.tmp 30) (by kernel_rfl) ⟨b0, 8, none⟩ (by kernel_rfl) (by kernel_rfl) ((HX.out.below b HX.out.lt).cell 8)) ?_
            refine held_free 29 (.bool true) rfl (by kernel_rfl) (by kernel_rfl) (by kernel_rfl) (by kernel_rfl) B3 (fun _ _ => ex_intleb .i64 3 3 (.const (.int .i64 0)) (.tmp 31) (by kernel_rfl) (0) (len) (by kernel_rfl) (by kernel_rfl) (by kernel_rfl) true (H3.out)) ?_
            refine held_free 30 (.bool true) rfl (by kernel_rfl) (by kernel_rfl) (by kernel_rfl) (by kernel_rfl) B3 (fun _ _ => by kernel_rfl) ?_
            refine held_free 31 (.bool true) rfl (by kernel_rfl) (by kernel_rfl) (by kernel_rfl) (by kernel_rfl) B3 (fun _ _ => by kernel_rfl) ?_
            refine held_free 32 (.pointer (some ⟨b0, 8, none⟩)) rfl (by kernel_rfl) (by kernel_rfl) (by kernel_rfl) (by kernel_rfl) B3 (fun _ _ => ex_field (v := .pointer (some ⟨b0, 0, none⟩)) 26 (.tmp 1) 8 (by kernel_rfl) (by kernel_rfl) (by kernel_rfl)) ?_
            refine held_free 33 (.int .i64 len) rfl (by kernel_rfl) (by kernel_rfl) (by kernel_rfl) (by kernel_rfl) B3 (fun W b => ex_load 3 (.tmp 35) (by kernel_rfl) ⟨b0, 8, none⟩ (by kernel_rfl) (by kernel_rfl) ((HX.out.below b HX.out.lt).cell 8)) ?_
            refine held_free 34 (.bool false) rfl (by kernel_rfl) (by kernel_rfl) (by kernel_rfl) (by kernel_rfl) B3 (fun _ _ => ex_intleb .i64 3 3 (.tmp 36) (.const (.int .i64 65535)) (by kernel_rfl) (len) (65535) (by kernel_rfl) (by kernel_rfl) (by kernel_rfl) false (H4.out)) ?_
            refine held_free 35 (.bool false) rfl (by kernel_rfl) (by kernel_rfl) (by kernel_rfl) (by kernel_rfl) B3 (fun _ _ => by kernel_rfl) ?_
            refine held_free 36 (.bool false) rfl (by kernel_rfl) (by kernel_rfl) (by kernel_rfl) (by kernel_rfl) B3 (fun _ _ => by kernel_rfl) ?_
            refine held_end (by kernel_rfl) ?_
            go_wp2_with fail
            rw [HMM.out]
            exact ret_slot 2 (.bool false) (by kernel_rfl) (by kernel_rfl) (by kernel_rfl) ⟨rfl, by have q := HBV.out.trans (B3.mono HBV.out.size); first | exact q | (rw [HB0.out]; exact q)⟩
        · have H0 := Lib.hid (show deq (⟨fin, false, la, ack, true, ld, dsn, ssn, len, hs, sum⟩ : Ds) (Ds.bare (⟨fin, false, la, ack, true, ld, dsn, ssn, len, hs, sum⟩ : Ds)) = true from (deq_iff _ _).2 h0.symm)
          have H1 := Lib.hid (show (la || decide (ack ≤ 4294967295)) = true from h1)
          have H2 := Lib.hid (show (ld || decide (dsn ≤ 4294967295)) = true from h2)
          have H3 := Lib.hid (show decide (0 ≤ len) = false from decide_eq_false h3)
          have HX := Lib.hid hx0
          have HO := Lib.hid hx
          have HMM := Lib.hid (show M = false from hM.trans (decide_eq_false fun m => h3 m.2.2.2.2.1))
          have HB0 := Lib.hid hb0
          have HVE := Lib.hid hV
          clear hx0 hb0 hV hx hM
          go_enter Try.func18, Try.ntmps18
          go_upto_region 1 with fail
          rw [← HVE.out, ← HB0.out]
          clear HVE
          have B0 : Below V.heap.size V V.drew := (Below.refl _ V).drew
          refine held_start (fun W => Below V.heap.size V W) (by kernel_rfl) (n := 37) rfl ?_
          obtain ⟨W0, hW0⟩ : ∃ W0, W0 = V.drew := ⟨_, rfl⟩
          rw [← hW0] at B0 ⊢
          clear hW0
          refine held_free 0 (.pointer (some ⟨b0, 1, none⟩)) rfl (by kernel_rfl) (by kernel_rfl) (by kernel_rfl) (by kernel_rfl) B0 (fun _ _ => ex_field (v := .pointer (some ⟨b0, 0, none⟩)) 26 (.tmp 1) 1 (by kernel_rfl) (by kernel_rfl) (by kernel_rfl)) ?_
          refine held_free 1 (.bool false) rfl (by kernel_rfl) (by kernel_rfl) (by kernel_rfl) (by kernel_rfl) B0 (fun W b => ex_load 4 (.tmp 3) (by kernel_rfl) ⟨b0, 1, none⟩ (by kernel_rfl) (by kernel_rfl) ((HX.out.below b HX.out.lt).cell 1)) ?_
          refine held_free 2 (.bool false) rfl (by kernel_rfl) (by kernel_rfl) (by kernel_rfl) (by kernel_rfl) B0 (fun _ _ => by kernel_rfl) ?_
          refine held_free 3 (.pointer (some ⟨b0, 4, none⟩)) rfl (by kernel_rfl) (by kernel_rfl) (by kernel_rfl) (by kernel_rfl) B0 (fun _ _ => ex_field (v := .pointer (some ⟨b0, 0, none⟩)) 26 (.tmp 1) 4 (by kernel_rfl) (by kernel_rfl) (by kernel_rfl)) ?_
          refine held_free 4 (.bool true) rfl (by kernel_rfl) (by kernel_rfl) (by kernel_rfl) (by kernel_rfl) B0 (fun W b => ex_load 4 (.tmp 6) (by kernel_rfl) ⟨b0, 4, none⟩ (by kernel_rfl) (by kernel_rfl) ((HX.out.below b HX.out.lt).cell 4)) ?_
          refine held_free 5 (.bool true) rfl (by kernel_rfl) (by kernel_rfl) (by kernel_rfl) (by kernel_rfl) B0 (fun _ _ => by kernel_rfl) ?_
          refine held_free 6 (.bool true) rfl (by kernel_rfl) (by kernel_rfl) (by kernel_rfl) (by kernel_rfl) B0 (fun _ _ => by kernel_rfl) ?_
          refine held_free 7 (.agg (dsv (⟨fin, false, la, ack, true, ld, dsn, ssn, len, hs, sum⟩ : Ds))) rfl (by kernel_rfl) (by kernel_rfl) (by kernel_rfl) (by kernel_rfl) B0 (fun W b => exec_row_ 26 (.tmp 1) (by kernel_rfl) b0 (by kernel_rfl) 26 _ (0, 0) _ (HX.out.below b HX.out.lt) Try.underlying26 rfl ds_size) ?_
          refine held_free 8 (.agg (dsv (⟨fin, false, la, ack, true, ld, dsn, ssn, len, hs, sum⟩ : Ds))) rfl (by kernel_rfl) (by kernel_rfl) (by kernel_rfl) (by kernel_rfl) B0 (fun W b => exec_row_ 26 (.tmp 1) (by kernel_rfl) b0 (by kernel_rfl) 26 _ (0, 0) _ (HX.out.below b HX.out.lt) Try.underlying26 rfl ds_size) ?_
          refine held_call 9 rfl (by kernel_rfl) (by kernel_rfl) (by kernel_rfl) (owned_any (⟨fin, false, la, ack, true, ld, dsn, ssn, len, hs, sum⟩ : Ds) _) (fun w' h => bel_in B0 h) ?_
          intro W1 hW1
          have B1 := bel_in B0 hW1
          clear hW1 B0
          refine held_free 10 (.bool true) rfl (by kernel_rfl) (by kernel_rfl) (by kernel_rfl) (by kernel_rfl) B1 (fun W b => ex_aggeq 26 26 (.tmp 10) (.tmp 12) (by kernel_rfl) ((dsv (⟨fin, false, la, ack, true, ld, dsn, ssn, len, hs, sum⟩ : Ds))) ((dsv (Ds.bare (⟨fin, false, la, ack, true, ld, dsn, ssn, len, hs, sum⟩ : Ds)))) (by kernel_rfl) (by kernel_rfl) (by kernel_rfl) true (ds_equal_b _ _ true H0.out W)) ?_
          refine held_free 11 (.bool true) rfl (by kernel_rfl) (by kernel_rfl) (by kernel_rfl) (by kernel_rfl) B1 (fun _ _ => by kernel_rfl) ?_
          refine held_free 12 (.bool true) rfl (by kernel_rfl) (by kernel_rfl) (by kernel_rfl) (by kernel_rfl) B1 (fun _ _ => by kernel_rfl) ?_
          refine held_free 13 (.pointer (some ⟨b0, 3, none⟩)) rfl (by kernel_rfl) (by kernel_rfl) (by kernel_rfl) (by kernel_rfl) B1 (fun _ _ => ex_field (v := .pointer (some ⟨b0, 0, none⟩)) 26 (.tmp 1) 3 (by kernel_rfl) (by kernel_rfl) (by kernel_rfl)) ?_
          refine held_free 14 (.int .u64 (ack : Int)) rfl (by kernel_rfl) (by kernel_rfl) (by kernel_rfl) (by kernel_rfl) B1 (fun W b => ex_load 22 (.tmp 16) (by kernel_rfl) ⟨b0, 3, none⟩ (by kernel_rfl) (by kernel_rfl) ((HX.out.below b HX.out.lt).cell 3)) ?_
          refine held_free 15 (.pointer (some ⟨b0, 2, none⟩)) rfl (by kernel_rfl) (by kernel_rfl) (by kernel_rfl) (by kernel_rfl) B1 (fun _ _ => ex_field (v := .pointer (some ⟨b0, 0, none⟩)) 26 (.tmp 1) 2 (by kernel_rfl) (by kernel_rfl) (by kernel_rfl)) ?_
          refine held_free 16 (.bool la) rfl (by kernel_rfl) (by kernel_rfl) (by kernel_rfl) (by kernel_rfl) B1 (fun W b => ex_load 4 (.tmp 18) (by kernel_rfl) ⟨b0, 2, none⟩ (by kernel_rfl) (by kernel_rfl) ((HX.out.below b HX.out.lt).cell 2)) ?_
          refine held_call 17 rfl (by kernel_rfl) (by kernel_rfl) (by kernel_rfl) (answer (fits_any ack la _ HO.out.ack) (congrArg Value.bool H1.out)) (fun w' h => bel_in B1 h) ?_
          intro W2 hW2
          have B2 := bel_in B1 hW2
          clear hW2 B1
          refine held_free 18 (.bool true) rfl (by kernel_rfl) (by kernel_rfl) (by kernel_rfl) (by kernel_rfl) B2 (fun _ _ => by kernel_rfl) ?_
          refine held_free 19 (.bool true) rfl (by kernel_rfl) (by kernel_rfl) (by kernel_rfl) (by kernel_rfl) B2 (fun _ _ => by kernel_rfl) ?_
          refine held_free 20 (.pointer (some ⟨b0, 6, none⟩)) rfl (by kernel_rfl) (by kernel_rfl) (by kernel_rfl) (by kernel_rfl) B2 (fun _ _ => ex_field (v := .pointer (some ⟨b0, 0, none⟩)) 26 (.tmp 1) 6 (by kernel_rfl) (by kernel_rfl) (by kernel_rfl)) ?_
          refine held_free 21 (.int .u64 (dsn : Int)) rfl (by kernel_rfl) (by kernel_rfl) (by kernel_rfl) (by kernel_rfl) B2 (fun W b => ex_load 22 (.tmp 23) (by kernel_rfl) ⟨b0, 6, none⟩ (by kernel_rfl) (by kernel_rfl) ((HX.out.below b HX.out.lt).cell 6)) ?_
          refine held_free 22 (.pointer (some ⟨b0, 5, none⟩)) rfl (by kernel_rfl) (by kernel_rfl) (by kernel_rfl) (by kernel_rfl) B2 (fun _ _ => ex_field (v := .pointer (some ⟨b0, 0, none⟩)) 26 (.tmp 1) 5 (by kernel_rfl) (by kernel_rfl) (by kernel_rfl)) ?_
          refine held_free 23 (.bool ld) rfl (by kernel_rfl) (by kernel_rfl) (by kernel_rfl) (by kernel_rfl) B2 (fun W b => ex_load 4 (.tmp 25) (by kernel_rfl) ⟨b0, 5, none⟩ (by kernel_rfl) (by kernel_rfl) ((HX.out.below b HX.out.lt).cell 5)) ?_
          refine held_call 24 rfl (by kernel_rfl) (by kernel_rfl) (by kernel_rfl) (answer (fits_any dsn ld _ HO.out.dsn) (congrArg Value.bool H2.out)) (fun w' h => bel_in B2 h) ?_
          intro W3 hW3
          have B3 := bel_in B2 hW3
          clear hW3 B2
          refine held_free 25 (.bool true) rfl (by kernel_rfl) (by kernel_rfl) (by kernel_rfl) (by kernel_rfl) B3 (fun _ _ => by kernel_rfl) ?_
          refine held_free 26 (.bool true) rfl (by kernel_rfl) (by kernel_rfl) (by kernel_rfl) (by kernel_rfl) B3 (fun _ _ => by kernel_rfl) ?_
          refine held_free 27 (.pointer (some ⟨b0, 8, none⟩)) rfl (by kernel_rfl) (by kernel_rfl) (by kernel_rfl) (by kernel_rfl) B3 (fun _ _ => ex_field (v := .pointer (some ⟨b0, 0, none⟩)) 26 (.tmp 1) 8 (by kernel_rfl) (by kernel_rfl) (by kernel_rfl)) ?_
          refine held_free 28 (.int .i64 len) rfl (by kernel_rfl) (by kernel_rfl) (by kernel_rfl) (by kernel_rfl) B3 (fun W b => ex_load 3 (.tmp 30) (by kernel_rfl) ⟨b0, 8, none⟩ (by kernel_rfl) (by kernel_rfl) ((HX.out.below b HX.out.lt).cell 8)) ?_
          refine held_free 29 (.bool false) rfl (by kernel_rfl) (by kernel_rfl) (by kernel_rfl) (by kernel_rfl) B3 (fun _ _ => ex_intleb .i64 3 3 (.const (.int .i64 0)) (.tmp 31) (by kernel_rfl) (0) (len) (by kernel_rfl) (by kernel_rfl) (by kernel_rfl) false (H3.out)) ?_
          refine held_free 30 (.bool false) rfl (by kernel_rfl) (by kernel_rfl) (by kernel_rfl) (by kernel_rfl) B3 (fun _ _ => by kernel_rfl) ?_
          refine held_free 31 (.bool false) rfl (by kernel_rfl) (by kernel_rfl) (by kernel_rfl) (by kernel_rfl) B3 (fun _ _ => by kernel_rfl) ?_
          refine held_pass 32 rfl (by kernel_rfl) (by kernel_rfl) (by kernel_rfl) (by kernel_rfl) B3 ?_
          refine held_pass 33 rfl (by kernel_rfl) (by kernel_rfl) (by kernel_rfl) (by kernel_rfl) B3 ?_
          refine held_pass 34 rfl (by kernel_rfl) (by kernel_rfl) (by kernel_rfl) (by kernel_rfl) B3 ?_
          refine held_free 35 (.bool false) rfl (by kernel_rfl) (by kernel_rfl) (by kernel_rfl) (by kernel_rfl) B3 (fun _ _ => by kernel_rfl) ?_
          refine held_free 36 (.bool false) rfl (by kernel_rfl) (by kernel_rfl) (by kernel_rfl) (by kernel_rfl) B3 (fun _ _ => by kernel_rfl) ?_
          refine held_end (by kernel_rfl) ?_
          go_wp2_with fail
          rw [HMM.out]
          exact ret_slot 2 (.bool false) (by kernel_rfl) (by kernel_rfl) (by kernel_rfl) ⟨rfl, by have q := HBV.out.trans (B3.mono HBV.out.size); first | exact q | (rw [HB0.out]; exact q)⟩
      · have H0 := Lib.hid (show deq (⟨fin, false, la, ack, true, ld, dsn, ssn, len, hs, sum⟩ : Ds) (Ds.bare (⟨fin, false, la, ack, true, ld, dsn, ssn, len, hs, sum⟩ : Ds)) = true from (deq_iff _ _).2 h0.symm)
        have H1 := Lib.hid (show (la || decide (ack ≤ 4294967295)) = true from h1)
        have H2 := Lib.hid (show (ld || decide (dsn ≤ 4294967295)) = false from Bool.eq_false_iff.2 h2)
        have HX := Lib.hid hx0
        have HO := Lib.hid hx
        have HMM := Lib.hid (show M = false from hM.trans (decide_eq_false fun m => h2 (by have := m.2.2.2.1; simpa using this)))
        have HB0 := Lib.hid hb0
        have HVE := Lib.hid hV
        clear hx0 hb0 hV hx hM
        go_enter Try.func18, Try.ntmps18
        go_upto_region 1 with fail
        rw [← HVE.out, ← HB0.out]
        clear HVE
        have B0 : Below V.heap.size V V.drew := (Below.refl _ V).drew
        refine held_start (fun W => Below V.heap.size V W) (by kernel_rfl) (n := 37) rfl ?_
        obtain ⟨W0, hW0⟩ : ∃ W0, W0 = V.drew := ⟨_, rfl⟩
        rw [← hW0] at B0 ⊢
        clear hW0
        refine held_free 0 (.pointer (some ⟨b0, 1, none⟩)) rfl (by kernel_rfl) (by kernel_rfl) (by kernel_rfl) (by kernel_rfl) B0 (fun _ _ => ex_field (v := .pointer (some ⟨b0, 0, none⟩)) 26 (.tmp 1) 1 (by kernel_rfl) (by kernel_rfl) (by kernel_rfl)) ?_
        refine held_free 1 (.bool false) rfl (by kernel_rfl) (by kernel_rfl) (by kernel_rfl) (by kernel_rfl) B0 (fun W b => ex_load 4 (.tmp 3) (by kernel_rfl) ⟨b0, 1, none⟩ (by kernel_rfl) (by kernel_rfl) ((HX.out.below b HX.out.lt).cell 1)) ?_
        refine held_free 2 (.bool false) rfl (by kernel_rfl) (by kernel_rfl) (by kernel_rfl) (by kernel_rfl) B0 (fun _ _ => by kernel_rfl) ?_
        refine held_free 3 (.pointer (some ⟨b0, 4, none⟩)) rfl (by kernel_rfl) (by kernel_rfl) (by kernel_rfl) (by kernel_rfl) B0 (fun _ _ => ex_field (v := .pointer (some ⟨b0, 0, none⟩)) 26 (.tmp 1) 4 (by kernel_rfl) (by kernel_rfl) (by kernel_rfl)) ?_
        refine held_free 4 (.bool true) rfl (by kernel_rfl) (by kernel_rfl) (by kernel_rfl) (by kernel_rfl) B0 (fun W b => ex_load 4 (.tmp 6) (by kernel_rfl) ⟨b0, 4, none⟩ (by kernel_rfl) (by kernel_rfl) ((HX.out.below b HX.out.lt).cell 4)) ?_
        refine held_free 5 (.bool true) rfl (by kernel_rfl) (by kernel_rfl) (by kernel_rfl) (by kernel_rfl) B0 (fun _ _ => by kernel_rfl) ?_
        refine held_free 6 (.bool true) rfl (by kernel_rfl) (by kernel_rfl) (by kernel_rfl) (by kernel_rfl) B0 (fun _ _ => by kernel_rfl) ?_
        refine held_free 7 (.agg (dsv (⟨fin, false, la, ack, true, ld, dsn, ssn, len, hs, sum⟩ : Ds))) rfl (by kernel_rfl) (by kernel_rfl) (by kernel_rfl) (by kernel_rfl) B0 (fun W b => exec_row_ 26 (.tmp 1) (by kernel_rfl) b0 (by kernel_rfl) 26 _ (0, 0) _ (HX.out.below b HX.out.lt) Try.underlying26 rfl ds_size) ?_
        refine held_free 8 (.agg (dsv (⟨fin, false, la, ack, true, ld, dsn, ssn, len, hs, sum⟩ : Ds))) rfl (by kernel_rfl) (by kernel_rfl) (by kernel_rfl) (by kernel_rfl) B0 (fun W b => exec_row_ 26 (.tmp 1) (by kernel_rfl) b0 (by kernel_rfl) 26 _ (0, 0) _ (HX.out.below b HX.out.lt) Try.underlying26 rfl ds_size) ?_
        refine held_call 9 rfl (by kernel_rfl) (by kernel_rfl) (by kernel_rfl) (owned_any (⟨fin, false, la, ack, true, ld, dsn, ssn, len, hs, sum⟩ : Ds) _) (fun w' h => bel_in B0 h) ?_
        intro W1 hW1
        have B1 := bel_in B0 hW1
        clear hW1 B0
        refine held_free 10 (.bool true) rfl (by kernel_rfl) (by kernel_rfl) (by kernel_rfl) (by kernel_rfl) B1 (fun W b => ex_aggeq 26 26 (.tmp 10) (.tmp 12) (by kernel_rfl) ((dsv (⟨fin, false, la, ack, true, ld, dsn, ssn, len, hs, sum⟩ : Ds))) ((dsv (Ds.bare (⟨fin, false, la, ack, true, ld, dsn, ssn, len, hs, sum⟩ : Ds)))) (by kernel_rfl) (by kernel_rfl) (by kernel_rfl) true (ds_equal_b _ _ true H0.out W)) ?_
        refine held_free 11 (.bool true) rfl (by kernel_rfl) (by kernel_rfl) (by kernel_rfl) (by kernel_rfl) B1 (fun _ _ => by kernel_rfl) ?_
        refine held_free 12 (.bool true) rfl (by kernel_rfl) (by kernel_rfl) (by kernel_rfl) (by kernel_rfl) B1 (fun _ _ => by kernel_rfl) ?_
        refine held_free 13 (.pointer (some ⟨b0, 3, none⟩)) rfl (by kernel_rfl) (by kernel_rfl) (by kernel_rfl) (by kernel_rfl) B1 (fun _ _ => ex_field (v := .pointer (some ⟨b0, 0, none⟩)) 26 (.tmp 1) 3 (by kernel_rfl) (by kernel_rfl) (by kernel_rfl)) ?_
        refine held_free 14 (.int .u64 (ack : Int)) rfl (by kernel_rfl) (by kernel_rfl) (by kernel_rfl) (by kernel_rfl) B1 (fun W b => ex_load 22 (.tmp 16) (by kernel_rfl) ⟨b0, 3, none⟩ (by kernel_rfl) (by kernel_rfl) ((HX.out.below b HX.out.lt).cell 3)) ?_
        refine held_free 15 (.pointer (some ⟨b0, 2, none⟩)) rfl (by kernel_rfl) (by kernel_rfl) (by kernel_rfl) (by kernel_rfl) B1 (fun _ _ => ex_field (v := .pointer (some ⟨b0, 0, none⟩)) 26 (.tmp 1) 2 (by kernel_rfl) (by kernel_rfl) (by kernel_rfl)) ?_
        refine held_free 16 (.bool la) rfl (by kernel_rfl) (by kernel_rfl) (by kernel_rfl) (by kernel_rfl) B1 (fun W b => ex_load 4 (.tmp 18) (by kernel_rfl) ⟨b0, 2, none⟩ (by kernel_rfl) (by kernel_rfl) ((HX.out.below b HX.out.lt).cell 2)) ?_
        refine held_call 17 rfl (by kernel_rfl) (by kernel_rfl) (by kernel_rfl) (answer (fits_any ack la _ HO.out.ack) (congrArg Value.bool H1.out)) (fun w' h => bel_in B1 h) ?_
        intro W2 hW2
        have B2 := bel_in B1 hW2
        clear hW2 B1
        refine held_free 18 (.bool true) rfl (by kernel_rfl) (by kernel_rfl) (by kernel_rfl) (by kernel_rfl) B2 (fun _ _ => by kernel_rfl) ?_
        refine held_free 19 (.bool true) rfl (by kernel_rfl) (by kernel_rfl) (by kernel_rfl) (by kernel_rfl) B2 (fun _ _ => by kernel_rfl) ?_
        refine held_free 20 (.pointer (some ⟨b0, 6, none⟩)) rfl (by kernel_rfl) (by kernel_rfl) (by kernel_rfl) (by kernel_rfl) B2 (fun _ _ => ex_field (v := .pointer (some ⟨b0, 0, none⟩)) 26 (.tmp 1) 6 (by kernel_rfl) (by kernel_rfl) (by kernel_rfl)) ?_
        refine held_free 21 (.int .u64 (dsn : Int)) rfl (by kernel_rfl) (by kernel_rfl) (by kernel_rfl) (by kernel_rfl) B2 (fun W b => ex_load 22 (.tmp 23) (by kernel_rfl) ⟨b0, 6, none⟩ (by kernel_rfl) (by kernel_rfl) ((HX.out.below b HX.out.lt).cell 6)) ?_
        refine held_free 22 (.pointer (some ⟨b0, 5, none⟩)) rfl (by kernel_rfl) (by kernel_rfl) (by kernel_rfl) (by kernel_rfl) B2 (fun _ _ => ex_field (v := .pointer (some ⟨b0, 0, none⟩)) 26 (.tmp 1) 5 (by kernel_rfl) (by kernel_rfl) (by kernel_rfl)) ?_
        refine held_free 23 (.bool ld) rfl (by kernel_rfl) (by kernel_rfl) (by kernel_rfl) (by kernel_rfl) B2 (fun W b => ex_load 4 (.tmp 25) (by kernel_rfl) ⟨b0, 5, none⟩ (by kernel_rfl) (by kernel_rfl) ((HX.out.below b HX.out.lt).cell 5)) ?_
        refine held_call 24 rfl (by kernel_rfl) (by kernel_rfl) (by kernel_rfl) (answer (fits_any dsn ld _ HO.out.dsn) (congrArg Value.bool H2.out)) (fun w' h => bel_in B2 h) ?_
        intro W3 hW3
        have B3 := bel_in B2 hW3
        clear hW3 B2
        refine held_free 25 (.bool false) rfl (by kernel_rfl) (by kernel_rfl) (by kernel_rfl) (by kernel_rfl) B3 (fun _ _ => by kernel_rfl) ?_
        refine held_free 26 (.bool false) rfl (by kernel_rfl) (by kernel_rfl) (by kernel_rfl) (by kernel_rfl) B3 (fun _ _ => by kernel_rfl) ?_
        refine held_pass 27 rfl (by kernel_rfl) (by kernel_rfl) (by kernel_rfl) (by kernel_rfl) B3 ?_
        refine held_pass 28 rfl (by kernel_rfl) (by kernel_rfl) (by kernel_rfl) (by kernel_rfl) B3 ?_
        refine held_pass 29 rfl (by kernel_rfl) (by kernel_rfl) (by kernel_rfl) (by kernel_rfl) B3 ?_
        refine held_free 30 (.bool false) rfl (by kernel_rfl) (by kernel_rfl) (by kernel_rfl) (by kernel_rfl) B3 (fun _ _ => by kernel_rfl) ?_
        refine held_free 31 (.bool false) rfl (by kernel_rfl) (by kernel_rfl) (by kernel_rfl) (by kernel_rfl) B3 (fun _ _ => by kernel_rfl) ?_
        refine held_pass 32 rfl (by kernel_rfl) (by kernel_rfl) (by kernel_rfl) (by kernel_rfl) B3 ?_
        refine held_pass 33 rfl (by kernel_rfl) (by kernel_rfl) (by kernel_rfl) (by kernel_rfl) B3 ?_
        refine held_pass 34 rfl (by kernel_rfl) (by kernel_rfl) (by kernel_rfl) (by kernel_rfl) B3 ?_
        refine held_free 35 (.bool false) rfl (by kernel_rfl) (by kernel_rfl) (by kernel_rfl) (by kernel_rfl) B3 (fun _ _ => by kernel_rfl) ?_
        refine held_free 36 (.bool false) rfl (by kernel_rfl) (by kernel_rfl) (by kernel_rfl) (by kernel_rfl) B3 (fun _ _ => by kernel_rfl) ?_
        refine held_end (by kernel_rfl) ?_
        go_wp2_with fail
        rw [HMM.out]
        exact ret_slot 2 (.bool false) (by kernel_rfl) (by kernel_rfl) (by kernel_rfl) ⟨rfl, by have q := HBV.out.trans (B3.mono HBV.out.size); first | exact q | (rw [HB0.out]; exact q)⟩
    · have H0 := Lib.hid (show deq (⟨fin, false, la, ack, true, ld, dsn, ssn, len, hs, sum⟩ : Ds) (Ds.bare (⟨fin, false, la, ack, true, ld, dsn, ssn, len, hs, sum⟩ : Ds)) = true from (deq_iff _ _).2 h0.symm)
      have H1 := Lib.hid (show (la || decide (ack ≤ 4294967295)) = false from Bool.eq_false_iff.2 h1)
      have HX := Lib.hid hx0
      have HO := Lib.hid hx
      have HMM := Lib.hid (show M = false from hM.trans (decide_eq_false fun m => h1 (by have := m.2.2.1; simpa using this)))
      have HB0 := Lib.hid hb0
      have HVE := Lib.hid hV
      clear hx0 hb0 hV hx hM
      go_enter Try.func18, Try.ntmps18
      go_upto_region 1 with fail
      rw [← HVE.out, ← HB0.out]
      clear HVE
      have B0 : Below V.heap.size V V.drew := (Below.refl _ V).drew
      refine held_start (fun W => Below V.heap.size V W) (by kernel_rfl) (n := 37) rfl ?_
      obtain ⟨W0, hW0⟩ : ∃ W0, W0 = V.drew := ⟨_, rfl⟩
      rw [← hW0] at B0 ⊢
      clear hW0
      refine held_free 0 (.pointer (some ⟨b0, 1, none⟩)) rfl (by kernel_rfl) (by kernel_rfl) (by kernel_rfl) (by kernel_rfl) B0 (fun _ _ => ex_field (v := .pointer (some ⟨b0, 0, none⟩)) 26 (.tmp 1) 1 (by kernel_rfl) (by kernel_rfl) (by kernel_rfl)) ?_
      refine held_free 1 (.bool false) rfl (by kernel_rfl) (by kernel_rfl) (by kernel_rfl) (by kernel_rfl) B0 (fun W b => ex_load 4 (.tmp 3) (by kernel_rfl) ⟨b0, 1, none⟩ (by kernel_rfl) (by kernel_rfl) ((HX.out.below b HX.out.lt).cell 1)) ?_
      refine held_free 2 (.bool false) rfl (by kernel_rfl) (by kernel_rfl) (by kernel_rfl) (by kernel_rfl) B0 (fun _ _ => by kernel_rfl) ?_
      refine held_free 3 (.pointer (some ⟨b0, 4, none⟩)) rfl (by kernel_rfl) (by kernel_rfl) (by kernel_rfl) (by kernel_rfl) B0 (fun _ _ => ex_field (v := .pointer (some ⟨b0, 0, none⟩)) 26 (.tmp 1) 4 (by kernel_rfl) (by kernel_rfl) (by kernel_rfl)) ?_
      refine held_free 4 (.bool true) rfl (by kernel_rfl) (by kernel_rfl) (by kernel_rfl) (by kernel_rfl) B0 (fun W b => ex_load 4 (.tmp 6) (by kernel_rfl) ⟨b0, 4, none⟩ (by kernel_rfl) (by kernel_rfl) ((HX.out.below b HX.out.lt).cell 4)) ?_
      refine held_free 5 (.bool true) rfl (by kernel_rfl) (by kernel_rfl) (by kernel_rfl) (by kernel_rfl) B0 (fun _ _ => by kernel_rfl) ?_
      refine held_free 6 (.bool true) rfl (by kernel_rfl) (by kernel_rfl) (by kernel_rfl) (by kernel_rfl) B0 (fun _ _ => by kernel_rfl) ?_
      refine held_free 7 (.agg (dsv (⟨fin, false, la, ack, true, ld, dsn, ssn, len, hs, sum⟩ : Ds))) rfl (by kernel_rfl) (by kernel_rfl) (by kernel_rfl) (by kernel_rfl) B0 (fun W b => exec_row_ 26 (.tmp 1) (by kernel_rfl) b0 (by kernel_rfl) 26 _ (0, 0) _ (HX.out.below b HX.out.lt) Try.underlying26 rfl ds_size) ?_
      refine held_free 8 (.agg (dsv (⟨fin, false, la, ack, true, ld, dsn, ssn, len, hs, sum⟩ : Ds))) rfl (by kernel_rfl) (by kernel_rfl) (by kernel_rfl) (by kernel_rfl) B0 (fun W b => exec_row_ 26 (.tmp 1) (by kernel_rfl) b0 (by kernel_rfl) 26 _ (0, 0) _ (HX.out.below b HX.out.lt) Try.underlying26 rfl ds_size) ?_
      refine held_call 9 rfl (by kernel_rfl) (by kernel_rfl) (by kernel_rfl) (owned_any (⟨fin, false, la, ack, true, ld, dsn, ssn, len, hs, sum⟩ : Ds) _) (fun w' h => bel_in B0 h) ?_
      intro W1 hW1
      have B1 := bel_in B0 hW1
      clear hW1 B0
      refine held_free 10 (.bool true) rfl (by kernel_rfl) (by kernel_rfl) (by kernel_rfl) (by kernel_rfl) B1 (fun W b => ex_aggeq 26 26 (.tmp 10) (.tmp 12) (by kernel_rfl) ((dsv (⟨fin, false, la, ack, true, ld, dsn, ssn, len, hs, sum⟩ : Ds))) ((dsv (Ds.bare (⟨fin, false, la, ack, true, ld, dsn, ssn, len, hs, sum⟩ : Ds)))) (by kernel_rfl) (by kernel_rfl) (by kernel_rfl) true (ds_equal_b _ _ true H0.out W)) ?_
      refine held_free 11 (.bool true) rfl (by kernel_rfl) (by kernel_rfl) (by kernel_rfl) (by kernel_rfl) B1 (fun _ _ => by kernel_rfl) ?_
      refine held_free 12 (.bool true) rfl (by kernel_rfl) (by kernel_rfl) (by kernel_rfl) (by kernel_rfl) B1 (fun _ _ => by kernel_rfl) ?_
      refine held_free 13 (.pointer (some ⟨b0, 3, none⟩)) rfl (by kernel_rfl) (by kernel_rfl) (by kernel_rfl) (by kernel_rfl) B1 (fun _ _ => ex_field (v := .pointer (some ⟨b0, 0, none⟩)) 26 (.tmp 1) 3 (by kernel_rfl) (by kernel_rfl) (by kernel_rfl)) ?_
      refine held_free 14 (.int .u64 (ack : Int)) rfl (by kernel_rfl) (by kernel_rfl) (by kernel_rfl) (by kernel_rfl) B1 (fun W b => ex_load 22 (.tmp 16) (by kernel_rfl) ⟨b0, 3, none⟩ (by kernel_rfl) (by kernel_rfl) ((HX.out.below b HX.out.lt).cell 3)) ?_
      refine held_free 15 (.pointer (some ⟨b0, 2, none⟩)) rfl (by kernel_rfl) (by kernel_rfl) (by kernel_rfl) (by kernel_rfl) B1 (fun _ _ => ex_field (v := .pointer (some ⟨b0, 0, none⟩)) 26 (.tmp 1) 2 (by kernel_rfl) (by kernel_rfl) (by kernel_rfl)) ?_
      refine held_free 16 (.bool la) rfl (by kernel_rfl) (by kernel_rfl) (by kernel_rfl) (by kernel_rfl) B1 (fun W b => ex_load 4 (.tmp 18) (by kernel_rfl) ⟨b0, 2, none⟩ (by kernel_rfl) (by kernel_rfl) ((HX.out.below b HX.out.lt).cell 2)) ?_
      refine held_call 17 rfl (by kernel_rfl) (by kernel_rfl) (by kernel_rfl) (answer (fits_any ack la _ HO.out.ack) (congrArg Value.bool H1.out)) (fun w' h => bel_in B1 h) ?_
      intro W2 hW2
      have B2 := bel_in B1 hW2
      clear hW2 B1
      refine held_free 18 (.bool false) rfl (by kernel_rfl) (by kernel_rfl) (by kernel_rfl) (by kernel_rfl) B2 (fun _ _ => by kernel_rfl) ?_
      refine held_free 19 (.bool false) rfl (by kernel_rfl) (by kernel_rfl) (by kernel_rfl) (by kernel_rfl) B2 (fun _ _ => by kernel_rfl) ?_
      refine held_pass 20 rfl (by kernel_rfl) (by kernel_rfl) (by kernel_rfl) (by kernel_rfl) B2 ?_
      refine held_pass 21 rfl (by kernel_rfl) (by kernel_rfl) (by kernel_rfl) (by kernel_rfl) B2 ?_
      refine held_pass 22 rfl (by kernel_rfl) (by kernel_rfl) (by kernel_rfl) (by kernel_rfl) B2 ?_
      refine held_pass 23 rfl (by kernel_rfl) (by kernel_rfl) (by kernel_rfl) (by kernel_rfl) B2 ?_
      refine held_pass 24 rfl (by kernel_rfl) (by kernel_rfl) (by kernel_rfl) (by kernel_rfl) B2 ?_
      refine held_free 25 (.bool false) rfl (by kernel_rfl) (by kernel_rfl) (by kernel_rfl) (by kernel_rfl) B2 (fun _ _ => by kernel_rfl) ?_
      refine held_free 26 (.bool false) rfl (by kernel_rfl) (by kernel_rfl) (by kernel_rfl) (by kernel_rfl) B2 (fun _ _ => by kernel_rfl) ?_
      refine held_pass 27 rfl (by kernel_rfl) (by kernel_rfl) (by kernel_rfl) (by kernel_rfl) B2 ?_
      refine held_pass 28 rfl (by kernel_rfl) (by kernel_rfl) (by kernel_rfl) (by kernel_rfl) B2 ?_
      refine held_pass 29 rfl (by kernel_rfl) (by kernel_rfl) (by kernel_rfl) (by kernel_rfl) B2 ?_
      refine held_free 30 (.bool false) rfl (by kernel_rfl) (by kernel_rfl) (by kernel_rfl) (by kernel_rfl) B2 (fun _ _ => by kernel_rfl) ?_
      refine held_free 31 (.bool false) rfl (by kernel_rfl) (by kernel_rfl) (by kernel_rfl) (by kernel_rfl) B2 (fun _ _ => by kernel_rfl) ?_
      refine held_pass 32 rfl (by kernel_rfl) (by kernel_rfl) (by kernel_rfl) (by kernel_rfl) B2 ?_
      refine held_pass 33 rfl (by kernel_rfl) (by kernel_rfl) (by kernel_rfl) (by kernel_rfl) B2 ?_
      refine held_pass 34 rfl (by kernel_rfl) (by kernel_rfl) (by kernel_rfl) (by kernel_rfl) B2 ?_
      refine held_free 35 (.bool false) rfl (by kernel_rfl) (by kernel_rfl) (by kernel_rfl) (by kernel_rfl) B2 (fun _ _ => by kernel_rfl) ?_
      refine held_free 36 (.bool false) rfl (by kernel_rfl) (by kernel_rfl) (by kernel_rfl) (by kernel_rfl) B2 (fun _ _ => by kernel_rfl) ?_
      refine held_end (by kernel_rfl) ?_
      go_wp2_with fail
      rw [HMM.out]
      exact ret_slot 2 (.bool false) (by kernel_rfl) (by kernel_rfl) (by kernel_rfl) ⟨rfl, by have q := HBV.out.trans (B2.mono HBV.out.size); first | exact q | (rw [HB0.out]; exact q)⟩
  · have H0 := Lib.hid (show deq (⟨fin, false, la, ack, true, ld, dsn, ssn, len, hs, sum⟩ : Ds) (Ds.bare (⟨fin, false, la, ack, true, ld, dsn, ssn, len, hs, sum⟩ : Ds)) = false from deq_ne fun q => h0 q.symm)
    have HX := Lib.hid hx0
    have HO := Lib.hid hx
    have HMM := Lib.hid (show M = false from hM.trans (decide_eq_false fun m => h0 ((Ds.bare_iff _).2 m.2.1)))
    have HB0 := Lib.hid hb0
    have HVE := Lib.hid hV
    clear hx0 hb0 hV hx hM
    go_enter Try.func18, Try.ntmps18
    go_upto_region 1 with fail
    rw [← HVE.out, ← HB0.out]
    clear HVE
    have B0 : Below V.heap.size V V.drew := (Below.refl _ V).drew
    refine held_start (fun W => Below V.heap.size V W) (by kernel_rfl) (n := 37) rfl ?_
    obtain ⟨W0, hW0⟩ : ∃ W0, W0 = V.drew := ⟨_, rfl⟩
    rw [← hW0] at B0 ⊢
    clear hW0
    refine held_free 0 (.pointer (some ⟨b0, 1, none⟩)) rfl (by kernel_rfl) (by kernel_rfl) (by kernel_rfl) (by kernel_rfl) B0 (fun _ _ => ex_field (v := .pointer (some ⟨b0, 0, none⟩)) 26 (.tmp 1) 1 (by kernel_rfl) (by kernel_rfl) (by kernel_rfl)) ?_
    refine held_free 1 (.bool false) rfl (by kernel_rfl) (by kernel_rfl) (by kernel_rfl) (by kernel_rfl) B0 (fun W b => ex_load 4 (.tmp 3) (by kernel_rfl) ⟨b0, 1, none⟩ (by kernel_rfl) (by kernel_rfl) ((HX.out.below b HX.out.lt).cell 1)) ?_
    refine held_free 2 (.bool false) rfl (by kernel_rfl) (by kernel_rfl) (by kernel_rfl) (by kernel_rfl) B0 (fun _ _ => by kernel_rfl) ?_
    refine held_free 3 (.pointer (some ⟨b0, 4, none⟩)) rfl (by kernel_rfl) (by kernel_rfl) (by kernel_rfl) (by kernel_rfl) B0 (fun _ _ => ex_field (v := .pointer (some ⟨b0, 0, none⟩)) 26 (.tmp 1) 4 (by kernel_rfl) (by kernel_rfl) (by kernel_rfl)) ?_
    refine held_free 4 (.bool true) rfl (by kernel_rfl) (by kernel_rfl) (by kernel_rfl) (by kernel_rfl) B0 (fun W b => ex_load 4 (.tmp 6) (by kernel_rfl) ⟨b0, 4, none⟩ (by kernel_rfl) (by kernel_rfl) ((HX.out.below b HX.out.lt).cell 4)) ?_
    refine held_free 5 (.bool true) rfl (by kernel_rfl) (by kernel_rfl) (by kernel_rfl) (by kernel_rfl) B0 (fun _ _ => by kernel_rfl) ?_
    refine held_free 6 (.bool true) rfl (by kernel_rfl) (by kernel_rfl) (by kernel_rfl) (by kernel_rfl) B0 (fun _ _ => by kernel_rfl) ?_
    refine held_free 7 (.agg (dsv (⟨fin, false, la, ack, true, ld, dsn, ssn, len, hs, sum⟩ : Ds))) rfl (by kernel_rfl) (by kernel_rfl) (by kernel_rfl) (by kernel_rfl) B0 (fun W b => exec_row_ 26 (.tmp 1) (by kernel_rfl) b0 (by kernel_rfl) 26 _ (0, 0) _ (HX.out.below b HX.out.lt) Try.underlying26 rfl ds_size) ?_
    refine held_free 8 (.agg (dsv (⟨fin, false, la, ack, true, ld, dsn, ssn, len, hs, sum⟩ : Ds))) rfl (by kernel_rfl) (by kernel_rfl) (by kernel_rfl) (by kernel_rfl) B0 (fun W b => exec_row_ 26 (.tmp 1) (by kernel_rfl) b0 (by kernel_rfl) 26 _ (0, 0) _ (HX.out.below b HX.out.lt) Try.underlying26 rfl ds_size) ?_
    refine held_call 9 rfl (by kernel_rfl) (by kernel_rfl) (by kernel_rfl) (owned_any (⟨fin, false, la, ack, true, ld, dsn, ssn, len, hs, sum⟩ : Ds) _) (fun w' h => bel_in B0 h) ?_
    intro W1 hW1
    have B1 := bel_in B0 hW1
    clear hW1 B0
    refine held_free 10 (.bool false) rfl (by kernel_rfl) (by kernel_rfl) (by kernel_rfl) (by kernel_rfl) B1 (fun W b => ex_aggeq 26 26 (.tmp 10) (.tmp 12) (by kernel_rfl) ((dsv (⟨fin, false, la, ack, true, ld, dsn, ssn, len, hs, sum⟩ : Ds))) ((dsv (Ds.bare (⟨fin, false, la, ack, true, ld, dsn, ssn, len, hs, sum⟩ : Ds)))) (by kernel_rfl) (by kernel_rfl) (by kernel_rfl) false (ds_equal_b _ _ false H0.out W)) ?_
    refine held_free 11 (.bool false) rfl (by kernel_rfl) (by kernel_rfl) (by kernel_rfl) (by kernel_rfl) B1 (fun _ _ => by kernel_rfl) ?_
    refine held_free 12 (.bool false) rfl (by kernel_rfl) (by kernel_rfl) (by kernel_rfl) (by kernel_rfl) B1 (fun _ _ => by kernel_rfl) ?_
    refine held_pass 13 rfl (by kernel_rfl) (by kernel_rfl) (by kernel_rfl) (by kernel_rfl) B1 ?_
    refine held_pass 14 rfl (by kernel_rfl) (by kernel_rfl) (by kernel_rfl) (by kernel_rfl) B1 ?_
    refine held_pass 15 rfl (by kernel_rfl) (by kernel_rfl) (by kernel_rfl) (by kernel_rfl) B1 ?_
    refine held_pass 16 rfl (by kernel_rfl) (by kernel_rfl) (by kernel_rfl) (by kernel_rfl) B1 ?_
    refine held_pass 17 rfl (by kernel_rfl) (by kernel_rfl) (by kernel_rfl) (by kernel_rfl) B1 ?_
    refine held_free 18 (.bool false) rfl (by kernel_rfl) (by kernel_rfl) (by kernel_rfl) (by kernel_rfl) B1 (fun _ _ => by kernel_rfl) ?_
    refine held_free 19 (.bool false) rfl (by kernel_rfl) (by kernel_rfl) (by kernel_rfl) (by kernel_rfl) B1 (fun _ _ => by kernel_rfl) ?_
    refine held_pass 20 rfl (by kernel_rfl) (by kernel_rfl) (by kernel_rfl) (by kernel_rfl) B1 ?_
    refine held_pass 21 rfl (by kernel_rfl) (by kernel_rfl) (by kernel_rfl) (by kernel_rfl) B1 ?_
    refine held_pass 22 rfl (by kernel_rfl) (by kernel_rfl) (by kernel_rfl) (by kernel_rfl) B1 ?_
    refine held_pass 23 rfl (by kernel_rfl) (by kernel_rfl) (by kernel_rfl) (by kernel_rfl) B1 ?_
    refine held_pass 24 rfl (by kernel_rfl) (by kernel_rfl) (by kernel_rfl) (by kernel_rfl) B1 ?_
    refine held_free 25 (.bool false) rfl (by kernel_rfl) (by kernel_rfl) (by kernel_rfl) (by kernel_rfl) B1 (fun _ _ => by kernel_rfl) ?_
    refine held_free 26 (.bool false) rfl (by kernel_rfl) (by kernel_rfl) (by kernel_rfl) (by kernel_rfl) B1 (fun _ _ => by kernel_rfl) ?_
    refine held_pass 27 rfl (by kernel_rfl) (by kernel_rfl) (by kernel_rfl) (by kernel_rfl) B1 ?_
    refine held_pass 28 rfl (by kernel_rfl) (by kernel_rfl) (by kernel_rfl) (by kernel_rfl) B1 ?_
    refine held_pass 29 rfl (by kernel_rfl) (by kernel_rfl) (by kernel_rfl) (by kernel_rfl) B1 ?_
    refine held_free 30 (.bool false) rfl (by kernel_rfl) (by kernel_rfl) (by kernel_rfl) (by kernel_rfl) B1 (fun _ _ => by kernel_rfl) ?_
    refine held_free 31 (.bool false) rfl (by kernel_rfl) (by kernel_rfl) (by kernel_rfl) (by kernel_rfl) B1 (fun _ _ => by kernel_rfl) ?_
    refine held_pass 32 rfl (by kernel_rfl) (by kernel_rfl) (by kernel_rfl) (by kernel_rfl) B1 ?_
    refine held_pass 33 rfl (by kernel_rfl) (by kernel_rfl) (by kernel_rfl) (by kernel_rfl) B1 ?_
    refine held_pass 34 rfl (by kernel_rfl) (by kernel_rfl) (by kernel_rfl) (by kernel_rfl) B1 ?_
    refine held_free 35 (.bool false) rfl (by kernel_rfl) (by kernel_rfl) (by kernel_rfl) (by kernel_rfl) B1 (fun _ _ => by kernel_rfl) ?_
    refine held_free 36 (.bool false) rfl (by kernel_rfl) (by kernel_rfl) (by kernel_rfl) (by kernel_rfl) B1 (fun _ _ => by kernel_rfl) ?_
    refine held_end (by kernel_rfl) ?_
    go_wp2_with fail
    rw [HMM.out]
    exact ret_slot 2 (.bool false) (by kernel_rfl) (by kernel_rfl) (by kernel_rfl) ⟨rfl, by have q := HBV.out.trans (B1.mono HBV.out.size); first | exact q | (rw [HB0.out]; exact q)⟩
theorem valid_any (x : Ds) (hx : x.Ok) (w : World) :
    Calls Try.prog 18 #[.agg (dsv x)] w fun e w' => e = .returned (.bool (decide x.May)) ∧ Below w.heap.size w w' := by
  obtain ⟨fin, ha, la, ack, hm, ld, dsn, ssn, len, hs, sum⟩ := x
  cases ha
  · cases hm
    · exact valid_none fin la ack ld dsn ssn len hs sum hx w
    · exact valid_map fin la ack ld dsn ssn len hs sum hx w
  · exact valid_ack fin la ack hm ld dsn ssn len hs sum hx w
end Go.Proofs.Ytdhkjhkgjfcolaa
