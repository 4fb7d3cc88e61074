/-
  The document's own May of layer 11 (plaitref11), by its walk: where there is an Ack, in every order that its expression's parts may come up.
-/
import Derived.Test.YtdhkjhkgjfcolaaDssRefs
import Derived.Test.YtdhkjhkgjfcolaaDssValid
namespace Go.Proofs.Ytdhkjhkgjfcolaa
open Go.ChangeShapes Go.WideShapes Go.ChangeAt Go.RowKit
set_option linter.unusedVariables false

theorem ex_intltb {ρ : Operand → Value} {o : Oper} {w : World} (k : IntKind) (t u : TypeId) (x y : Operand) (ho : o.op = .binOp .lss t x y u) (a b : Int) (hx : ρ x = .int k a) (hy : ρ y = .int k b) (ht : Try.prog.underlying t = some (.int k)) (B : Bool) (h : decide (a < b) = B) :
    (execOp ρ o).run Try.prog w = .ok (.value (.bool B)) w := by
  subst h
  unfold execOp
  rw [ho]
  simp [hx, hy, go_sem]
theorem ex_intgeb {ρ : Operand → Value} {o : Oper} {w : World} (k : IntKind) (t u : TypeId) (x y : Operand) (ho : o.op = .binOp .geq t x y u) (a b : Int) (hx : ρ x = .int k a) (hy : ρ y = .int k b) (ht : Try.prog.underlying t = some (.int k)) (B : Bool) (h : decide (b ≤ a) = B) :
    (execOp ρ o).run Try.prog w = .ok (.value (.bool B)) w := by
  subst h
  unfold execOp
  rw [ho]
  simp [hx, hy, go_sem]
set_option maxHeartbeats 1000000 in
set_option maxRecDepth 100000 in
theorem mayR_ack_false_false (fin : Bool) (ack : Nat) (hm : Bool) (dsn : Nat) (ssn : Nat) (len : Int) (hs : Bool) (sum : Nat) (w : World) :
    Calls Try.prog 23 #[.agg (dsv (⟨fin, true, false, ack, hm, false, dsn, ssn, len, hs, sum⟩ : Ds))] w fun e w' => e = .returned (.bool (decide (Ds.May (⟨fin, true, false, ack, hm, false, dsn, ssn, len, hs, sum⟩ : Ds)))) ∧ Below w.heap.size w w' := by
  obtain ⟨V, hV⟩ : ∃ V, V = w.alloc (.cells (dsv (⟨fin, true, false, ack, hm, false, dsn, ssn, len, hs, sum⟩ : Ds)) 26) := ⟨_, rfl⟩
  obtain ⟨b0, hb0⟩ : ∃ b0, b0 = w.heap.size := ⟨_, rfl⟩
  obtain ⟨M, hM⟩ : ∃ M, M = decide (Ds.May (⟨fin, true, false, ack, hm, false, dsn, ssn, len, hs, sum⟩ : Ds)) := ⟨_, rfl⟩
  rw [← hM]
  have HBV := Lib.hid (show Below w.heap.size w V by rw [hV]; exact (Below.refl _ w).alloc (Nat.le_refl _) _)
  have hx0 : Blk V b0 26 (dsv (⟨fin, true, false, ack, hm, false, dsn, ssn, len, hs, sum⟩ : Ds)) := by rw [hV, hb0]; exact Blk.new _ _ _
  by_cases hbare : Ds.bare (⟨fin, true, false, ack, hm, false, dsn, ssn, len, hs, sum⟩ : Ds) = (⟨fin, true, false, ack, hm, false, dsn, ssn, len, hs, sum⟩ : Ds)
  · by_cases hack : (ack : Int) < 4294967296
    · by_cases hdsn : (dsn : Int) < 4294967296
      · by_cases hlo : 0 ≤ len
        · by_cases hhi : len ≤ 65535
          · have H0 := Lib.hid (show deq (⟨fin, true, false, ack, hm, false, dsn, ssn, len, hs, sum⟩ : Ds) (Ds.bare (⟨fin, true, false, ack, hm, false, dsn, ssn, len, hs, sum⟩ : Ds)) = true from (deq_iff _ _).2 hbare.symm)
            have H1 := Lib.hid (show decide ((ack : Int) < 4294967296) = true from decide_eq_true hack)
            have H2 := Lib.hid (show decide ((dsn : Int) < 4294967296) = true from decide_eq_true hdsn)
            have H3 := Lib.hid (show decide ((0 : Int) ≤ len) = true from decide_eq_true hlo)
            have H4 := Lib.hid (show decide (len ≤ 65535) = true from decide_eq_true hhi)
            have HX := Lib.hid hx0
            have HMM := Lib.hid (show M = true from hM.trans (decide_eq_true ⟨.inl rfl, (Ds.bare_iff _).1 hbare, .inr (by simp only []; omega), .inr (by simp only []; omega), hlo, hhi⟩))
            have HB0 := Lib.hid hb0
            have HVE := Lib.hid hV
            clear hx0 hb0 hV hM
            go_enter Try.func23, Try.ntmps23
            go_upto_region 1 with fail
            rw [← HVE.out, ← HB0.out]
            clear HVE
            have B0 : Below V.heap.size V V.drew := (Below.refl _ V).drew
            refine held_start (fun W => Below V.heap.size V W) (by kernel_rfl) (n := 41) rfl ?_
            obtain ⟨W0, hW0⟩ : ∃ W0, W0 = V.drew := ⟨_, rfl⟩
            rw [← hW0] at B0 ⊢
            clear hW0
            refine held_free 0 (.pointer (some ⟨b0, 1, none⟩)) rfl (by kernel_rfl) (by kernel_rfl) (by kernel_rfl) (by kernel_rfl) B0 (fun _ _ => ex_field (v := .pointer (some ⟨b0, 0, none⟩)) 26 (.tmp 1) 1 (by kernel_rfl) (by kernel_rfl) (by kernel_rfl)) ?_
            refine held_free 1 (.bool true) rfl (by kernel_rfl) (by kernel_rfl) (by kernel_rfl) (by kernel_rfl) B0 (fun W b => ex_load 4 (.tmp 3) (by kernel_rfl) ⟨b0, 1, none⟩ (by kernel_rfl) (by kernel_rfl) ((HX.out.below b HX.out.lt).cell 1)) ?_
            refine held_free 2 (.bool true) rfl (by kernel_rfl) (by kernel_rfl) (by kernel_rfl) (by kernel_rfl) B0 (fun _ _ => by kernel_rfl) ?_
            refine held_pass 3 rfl (by kernel_rfl) (by kernel_rfl) (by kernel_rfl) (by kernel_rfl) B0 ?_
            refine held_pass 4 rfl (by kernel_rfl) (by kernel_rfl) (by kernel_rfl) (by kernel_rfl) B0 ?_
            refine held_free 5 (.bool true) rfl (by kernel_rfl) (by kernel_rfl) (by kernel_rfl) (by kernel_rfl) B0 (fun _ _ => by kernel_rfl) ?_
            refine held_free 6 (.bool true) rfl (by kernel_rfl) (by kernel_rfl) (by kernel_rfl) (by kernel_rfl) B0 (fun _ _ => by kernel_rfl) ?_
            refine held_free 7 (.agg (dsv (⟨fin, true, false, ack, hm, false, dsn, ssn, len, hs, sum⟩ : Ds))) rfl (by kernel_rfl) (by kernel_rfl) (by kernel_rfl) (by kernel_rfl) B0 (fun W b => exec_row_ 26 (.tmp 1) (by kernel_rfl) b0 (by kernel_rfl) 26 _ (0, 0) _ (HX.out.below b HX.out.lt) Try.underlying26 rfl ds_size) ?_
            refine held_free 8 (.agg (dsv (⟨fin, true, false, ack, hm, false, dsn, ssn, len, hs, sum⟩ : Ds))) rfl (by kernel_rfl) (by kernel_rfl) (by kernel_rfl) (by kernel_rfl) B0 (fun W b => exec_row_ 26 (.tmp 1) (by kernel_rfl) b0 (by kernel_rfl) 26 _ (0, 0) _ (HX.out.below b HX.out.lt) Try.underlying26 rfl ds_size) ?_
            refine held_call 9 rfl (by kernel_rfl) (by kernel_rfl) (by kernel_rfl) (bareR_any (⟨fin, true, false, ack, hm, false, dsn, ssn, len, hs, sum⟩ : Ds) _) (fun w' h => bel_in B0 h) ?_
            intro W1 hW1
            have B1 := bel_in B0 hW1
            clear hW1 B0
            refine held_free 10 (.bool true) rfl (by kernel_rfl) (by kernel_rfl) (by kernel_rfl) (by kernel_rfl) B1 (fun W b => ex_aggeq 26 26 (.tmp 10) (.tmp 12) (by kernel_rfl) ((dsv (⟨fin, true, false, ack, hm, false, dsn, ssn, len, hs, sum⟩ : Ds))) ((dsv (Ds.bare (⟨fin, true, false, ack, hm, false, dsn, ssn, len, hs, sum⟩ : Ds)))) (by kernel_rfl) (by kernel_rfl) (by kernel_rfl) true (ds_equal_b _ _ true H0.out W)) ?_
            refine held_free 11 (.bool true) rfl (by kernel_rfl) (by kernel_rfl) (by kernel_rfl) (by kernel_rfl) B1 (fun _ _ => by kernel_rfl) ?_
            refine held_free 12 (.bool true) rfl (by kernel_rfl) (by kernel_rfl) (by kernel_rfl) (by kernel_rfl) B1 (fun _ _ => by kernel_rfl) ?_
            refine held_free 13 (.pointer (some ⟨b0, 2, none⟩)) rfl (by kernel_rfl) (by kernel_rfl) (by kernel_rfl) (by kernel_rfl) B1 (fun _ _ => ex_field (v := .pointer (some ⟨b0, 0, none⟩)) 26 (.tmp 1) 2 (by kernel_rfl) (by kernel_rfl) (by kernel_rfl)) ?_
            refine held_free 14 (.bool false) rfl (by kernel_rfl) (by kernel_rfl) (by kernel_rfl) (by kernel_rfl) B1 (fun W b => ex_load 4 (.tmp 16) (by kernel_rfl) ⟨b0, 2, none⟩ (by kernel_rfl) (by kernel_rfl) ((HX.out.below b HX.out.lt).cell 2)) ?_
            refine held_free 15 (.bool false) rfl (by kernel_rfl) (by kernel_rfl) (by kernel_rfl) (by kernel_rfl) B1 (fun _ _ => by kernel_rfl) ?_
            refine held_free 16 (.pointer (some ⟨b0, 3, none⟩)) rfl (by kernel_rfl) (by kernel_rfl) (by kernel_rfl) (by kernel_rfl) B1 (fun _ _ => ex_field (v := .pointer (some ⟨b0, 0, none⟩)) 26 (.tmp 1) 3 (by kernel_rfl) (by kernel_rfl) (by kernel_rfl)) ?_
            refine held_free 17 (.int .u64 (ack : Int)) rfl (by kernel_rfl) (by kernel_rfl) (by kernel_rfl) (by kernel_rfl) B1 (fun W b => ex_load 22 (.tmp 19) (by kernel_rfl) ⟨b0, 3, none⟩ (by kernel_rfl) (by kernel_rfl) ((HX.out.below b HX.out.lt).cell 3)) ?_
            refine held_free 18 (.bool true) rfl (by kernel_rfl) (by kernel_rfl) (by kernel_rfl) (by kernel_rfl) B1 (fun _ _ => ex_intltb .u64 22 22 (.tmp 20) (.const (.int .u64 4294967296)) (by kernel_rfl) ((ack : Int)) (4294967296) (by kernel_rfl) (by kernel_rfl) (by kernel_rfl) true (H1.out)) ?_
            refine held_free 19 (.bool true) rfl (by kernel_rfl) (by kernel_rfl) (by kernel_rfl) (by kernel_rfl) B1 (fun _ _ => by kernel_rfl) ?_
            refine held_free 20 (.bool true) rfl (by kernel_rfl) (by kernel_rfl) (by kernel_rfl) (by kernel_rfl) B1 (fun _ _ => by kernel_rfl) ?_
            refine held_free 21 (.bool true) rfl (by kernel_rfl) (by kernel_rfl) (by kernel_rfl) (by kernel_rfl) B1 (fun _ _ => by kernel_rfl) ?_
            refine held_free 22 (.pointer (some ⟨b0, 5, none⟩)) rfl (by kernel_rfl) (by kernel_rfl) (by kernel_rfl) (by kernel_rfl) B1 (fun _ _ => ex_field (v := .pointer (some ⟨b0, 0, none⟩)) 26 (.tmp 1) 5 (by kernel_rfl) (by kernel_rfl) (by kernel_rfl)) ?_
            refine held_free 23 (.bool false) rfl (by kernel_rfl) (by kernel_rfl) (by kernel_rfl) (by kernel_rfl) B1 (fun W b => ex_load 4 (.tmp 25) (by kernel_rfl) ⟨b0, 5, none⟩ (by kernel_rfl) (by kernel_rfl) ((HX.out.below b HX.out.lt).cell 5)) ?_
            refine held_free 24 (.bool false) rfl (by kernel_rfl) (by kernel_rfl) (by kernel_rfl) (by kernel_rfl) B1 (fun _ _ => by kernel_rfl) ?_
            refine held_free 25 (.pointer (some ⟨b0, 6, none⟩)) rfl (by kernel_rfl) (by kernel_rfl) (by kernel_rfl) (by kernel_rfl) B1 (fun _ _ => ex_field (v := .pointer (some ⟨b0, 0, none⟩)) 26 (.tmp 1) 6 (by kernel_rfl) (by kernel_rfl) (by kernel_rfl)) ?_
            refine held_free 26 (.int .u64 (dsn : Int)) rfl (by kernel_rfl) (by kernel_rfl) (by kernel_rfl) (by kernel_rfl) B1 (fun W b => ex_load 22 (.tmp 28) (by kernel_rfl) ⟨b0, 6, none⟩ (by kernel_rfl) (by kernel_rfl) ((HX.out.below b HX.out.lt).cell 6)) ?_
            refine held_free 27 (.bool true) rfl (by kernel_rfl) (by kernel_rfl) (by kernel_rfl) (by kernel_rfl) B1 (fun _ _ => ex_intltb .u64 22 22 (.tmp 29) (.const (.int .u64 4294967296)) (by kernel_rfl) ((dsn : Int)) (4294967296) (by kernel_rfl) (by kernel_rfl) (by kernel_rfl) true (H2.out)) ?_
            refine held_free 28 (.bool true) rfl (by kernel_rfl) (by kernel_rfl) (by kernel_rfl) (by kernel_rfl) B1 (fun _ _ => by kernel_rfl) ?_
            refine held_free 29 (.bool true) rfl (by kernel_rfl) (by kernel_rfl) (by kernel_rfl) (by kernel_rfl) B1 (fun _ _ => by kernel_rfl) ?_
            refine held_free 30 (.bool true) rfl (by kernel_rfl) (by kernel_rfl) (by kernel_rfl) (by kernel_rfl) B1 (fun _ _ => by kernel_rfl) ?_
            refine held_free 31 (.pointer (some ⟨b0, 8, none⟩)) rfl (by kernel_rfl) (by kernel_rfl) (by kernel_rfl) (by kernel_rfl) B1 (fun _ _ => ex_field (v := .pointer (some ⟨b0, 0, none⟩)) 26 (.tmp 1) 8 (by kernel_rfl) (by kernel_rfl) (by kernel_rfl)) ?_
            refine held_free 32 (.int .i64 len) rfl (by kernel_rfl) (by kernel_rfl) (by kernel_rfl) (by kernel_rfl) B1 (fun W b => ex_load 3 (.tmp 34) (by kernel_rfl) ⟨b0, 8, none⟩ (by kernel_rfl) (by kernel_rfl) ((HX.out.below b HX.out.lt).cell 8)) ?_
            refine held_free 33 (.bool true) rfl (by kernel_rfl) (by kernel_rfl) (by kernel_rfl) (by kernel_rfl) B1 (fun _ _ => ex_intgeb .i64 3 3 (.tmp 35) (.const (.int .i64 0)) (by kernel_rfl) (len) (0) (by kernel_rfl) (by kernel_rfl) (by kernel_rfl) true (H3.out)) ?_
            refine held_free 34 (.bool true) rfl (by kernel_rfl) (by kernel_rfl) (by kernel_rfl) (by kernel_rfl) B1 (fun _ _ => by kernel_rfl) ?_
            refine held_free 35 (.bool true) rfl (by kernel_rfl) (by kernel_rfl) (by kernel_rfl) (by kernel_rfl) B1 (fun _ _ => by kernel_rfl) ?_
            refine held_free 36 (.pointer (some ⟨b0, 8, none⟩)) rfl (by kernel_rfl) (by kernel_rfl) (by kernel_rfl) (by kernel_rfl) B1 (fun _ _ => ex_field (v := .pointer (some ⟨b0, 0, none⟩)) 26 (.tmp 1) 8 (by kernel_rfl) (by kernel_rfl) (by kernel_rfl)) ?_
            refine held_free 37 (.int .i64 len) rfl (by kernel_rfl) (by kernel_rfl) (by kernel_rfl) (by kernel_rfl) B1 (fun W b => ex_load 3 (.tmp 39) (by kernel_rfl) ⟨b0, 8, none⟩ (by kernel_rfl) (by kernel_rfl) ((HX.out.below b HX.out.lt).cell 8)) ?_
            refine held_free 38 (.bool true) rfl (by kernel_rfl) (by kernel_rfl) (by kernel_rfl) (by kernel_rfl) B1 (fun _ _ => ex_intleb .i64 3 3 (.tmp 40) (.const (.int .i64 65535)) (by kernel_rfl) (len) (65535) (by kernel_rfl) (by kernel_rfl) (by kernel_rfl) true (H4.out)) ?_
            refine held_free 39 (.bool true) rfl (by kernel_rfl) (by kernel_rfl) (by kernel_rfl) (by kernel_rfl) B1 (fun _ _ => by kernel_rfl) ?_
            refine held_free 40 (.bool true) rfl (by kernel_rfl) (by kernel_rfl) (by kernel_rfl) (by kernel_rfl) B1 (fun _ _ => by kernel_rfl) ?_
            refine held_end (by kernel_rfl) ?_
            go_wp2_with fail
            rw [HMM.out]
            exact ret_slot 2 (.bool true) (by kernel_rfl) (by kernel_rfl) (by kernel_rfl) ⟨rfl, by have q := HBV.out.trans (B1.mono HBV.out.size); first | exact q | (rw [HB0.out]; exact q)⟩
          · have H0 := Lib.hid (show deq (⟨fin, true, false, ack, hm, false, dsn, ssn, len, hs, sum⟩ : Ds) (Ds.bare (⟨fin, true, false, ack, hm, false, dsn, ssn, len, hs, sum⟩ : Ds)) = true from (deq_iff _ _).2 hbare.symm)
            have H1 := Lib.hid (show decide ((ack : Int) < 4294967296) = true from decide_eq_true hack)
            have H2 := Lib.hid (show decide ((dsn : Int) < 4294967296) = true from decide_eq_true hdsn)
            have H3 := Lib.hid (show decide ((0 : Int) ≤ len) = true from decide_eq_true hlo)
            have H4 := Lib.hid (show decide (len ≤ 65535) = false from decide_eq_false hhi)
            have HX := Lib.hid hx0
            have HMM := Lib.hid (show M = false from hM.trans (decide_eq_false fun m => hhi m.2.2.2.2.2))
            have HB0 := Lib.hid hb0
            have HVE := Lib.hid hV
            clear hx0 hb0 hV hM
            go_enter Try.func23, Try.ntmps23
            go_upto_region 1 with fail
            rw [← HVE.out, ← HB0.out]
            clear HVE
            have B0 : Below V.heap.size V V.drew := (Below.refl _ V).drew
            refine held_start (fun W => Below V.heap.size V W) (by kernel_rfl) (n := 41) rfl ?_
            obtain ⟨W0, hW0⟩ : ∃ W0, W0 = V.drew := ⟨_, rfl⟩
            rw [← hW0] at B0 ⊢
            clear hW0
            refine held_free 0 (.pointer (some ⟨b0, 1, none⟩)) rfl (by kernel_rfl) (by kernel_rfl) (by kernel_rfl) (by kernel_rfl) B0 (fun _ _ => ex_field (v := .pointer (some ⟨b0, 0, none⟩)) 26 (.tmp 1) 1 (by kernel_rfl) (by kernel_rfl) (by kernel_rfl)) ?_
            refine held_free 1 (.bool true) rfl (by kernel_rfl) (by kernel_rfl) (by kernel_rfl) (by kernel_rfl) B0 (fun W b => ex_load 4 (.tmp 3) (by kernel_rfl) ⟨b0, 1, none⟩ (by kernel_rfl) (by kernel_rfl) ((HX.out.below b HX.out.lt).cell 1)) ?_
            refine held_free 2 (.bool true) rfl (by kernel_rfl) (by kernel_rfl) (by kernel_rfl) (by kernel_rfl) B0 (fun _ _ => by kernel_rfl) ?_
            refine held_pass 3 rfl (by kernel_rfl) (by kernel_rfl) (by kernel_rfl) (by kernel_rfl) B0 ?_
            refine held_pass 4 rfl (by kernel_rfl) (by kernel_rfl) (by kernel_rfl) (by kernel_rfl) B0 ?_
            refine held_free 5 (.bool true) rfl (by kernel_rfl) (by kernel_rfl) (by kernel_rfl) (by kernel_rfl) B0 (fun _ _ => by kernel_rfl) ?_
            refine held_free 6 (.bool true) rfl (by kernel_rfl) (by kernel_rfl) (by kernel_rfl) (by kernel_rfl) B0 (fun _ _ => by kernel_rfl) ?_
            refine held_free 7 (.agg (dsv (⟨fin, true, false, ack, hm, false, dsn, ssn, len, hs, sum⟩ : Ds))) rfl (by kernel_rfl) (by kernel_rfl) (by kernel_rfl) (by kernel_rfl) B0 (fun W b => exec_row_ 26 (.tmp 1) (by kernel_rfl) b0 (by kernel_rfl) 26 _ (0, 0) _ (HX.out.below b HX.out.lt) Try.underlying26 rfl ds_size) ?_
            refine held_free 8 (.agg (dsv (⟨fin, true, false, ack, hm, false, dsn, ssn, len, hs, sum⟩ : Ds))) rfl (by kernel_rfl) (by kernel_rfl) (by kernel_rfl) (by kernel_rfl) B0 (fun W b => exec_row_ 26 (.tmp 1) (by kernel_rfl) b0 (by kernel_rfl) 26 _ (0, 0) _ (HX.out.below b HX.out.lt) Try.underlying26 rfl ds_size) ?_
            refine held_call 9 rfl (by kernel_rfl) (by kernel_rfl) (by kernel_rfl) (bareR_any (⟨fin, true, false, ack, hm, false, dsn, ssn, len, hs, sum⟩ : Ds) _) (fun w' h => bel_in B0 h) ?_
            intro W1 hW1
            have B1 := bel_in B0 hW1
            clear hW1 B0
            refine held_free 10 (.bool true) rfl (by kernel_rfl) (by kernel_rfl) (by kernel_rfl) (by kernel_rfl) B1 (fun W b => ex_aggeq 26 26 (.tmp 10) (.tmp 12) (by kernel_rfl) ((dsv (⟨fin, true, false, ack, hm, false, dsn, ssn, len, hs, sum⟩ : Ds))) ((dsv (Ds.bare (⟨fin, true, false, ack, hm, false, dsn, ssn, len, hs, sum⟩ : Ds)))) (by kernel_rfl) (by kernel_rfl) (by kernel_rfl) true (ds_equal_b _ _ true H0.out W)) ?_
            refine held_free 11 (.bool true) rfl (by kernel_rfl) (by kernel_rfl) (by kernel_rfl) (by kernel_rfl) B1 (fun _ _ => by kernel_rfl) ?_
            refine held_free 12 (.bool true) rfl (by kernel_rfl) (by kernel_rfl) (by kernel_rfl) (by kernel_rfl) B1 (fun _ _ => by kernel_rfl) ?_
            refine held_free 13 (.pointer (some ⟨b0, 2, none⟩)) rfl (by kernel_rfl) (by kernel_rfl) (by kernel_rfl) (by kernel_rfl) B1 (fun _ _ => ex_field (v := .pointer (some ⟨b0, 0, none⟩)) 26 (.tmp 1) 2 (by kernel_rfl) (by kernel_rfl) (by kernel_rfl)) ?_
            refine held_free 14 (.bool false) rfl (by kernel_rfl) (by kernel_rfl) (by kernel_rfl) (by kernel_rfl) B1 (fun W b => ex_load 4 (.tmp 16) (by kernel_rfl) ⟨b0, 2, none⟩ (by kernel_rfl) (by kernel_rfl) ((HX.out.below b HX.out.lt).cell 2)) ?_
            refine held_free 15 (.bool false) rfl (by kernel_rfl) (by kernel_rfl) (by kernel_rfl) (by kernel_rfl) B1 (fun _ _ => by kernel_rfl) ?_
            refine held_free 16 (.pointer (some ⟨b0, 3, none⟩)) rfl (by kernel_rfl) (by kernel_rfl) (by kernel_rfl) (by kernel_rfl) B1 (fun _ _ => ex_field (v := .pointer (some ⟨b0, 0, none⟩)) 26 (.tmp 1) 3 (by kernel_rfl) (by kernel_rfl) (by kernel_rfl)) ?_
            refine held_free 17 (.int .u64 (ack : Int)) rfl (by kernel_rfl) (by kernel_rfl) (by kernel_rfl) (by kernel_rfl) B1 (fun W b => ex_load 22 (.tmp 19) (by kernel_rfl) ⟨b0, 3, none⟩ (by kernel_rfl) (by kernel_rfl) ((HX.out.below b HX.out.lt).cell 3)) ?_
            refine held_free 18 (.bool true) rfl (by kernel_rfl) (by kernel_rfl) (by kernel_rfl) (by kernel_rfl) B1 (fun _ _ => ex_intltb .u64 22 22 (.tmp 20) (.const (.int .u64 4294967296)) (by kernel_rfl) ((ack : Int)) (4294967296) (by kernel_rfl) (by kernel_rfl) (by kernel_rfl) true (H1.out)) ?_
            refine held_free 19 (.bool true) rfl (by kernel_rfl) (by kernel_rfl) (by kernel_rfl) (by kernel_rfl) B1 (fun _ _ => by kernel_rfl) ?_
            refine held_free 20 (.bool true) rfl (by kernel_rfl) (by kernel_rfl) (by kernel_rfl) (by kernel_rfl) B1 (fun _ _ => by kernel_rfl) ?_
            refine held_free 21 (.bool true) rfl (by kernel_rfl) (by kernel_rfl) (by kernel_rfl) (by kernel_rfl) B1 (fun _ _ => by kernel_rfl) ?_
            refine held_free 22 (.pointer (some ⟨b0, 5, none⟩)) rfl (by kernel_rfl) (by kernel_rfl) (by kernel_rfl) (by kernel_rfl) B1 (fun _ _ => ex_field (v := .pointer (some ⟨b0, 0, none⟩)) 26 (.tmp 1) 5 (by kernel_rfl) (by kernel_rfl) (by kernel_rfl)) ?_
            refine held_free 23 (.bool false) rfl (by kernel_rfl) (by kernel_rfl) (by kernel_rfl) (by kernel_rfl) B1 (fun W b => ex_load 4 (.tmp 25) (by kernel_rfl) ⟨b0, 5, none⟩ (by kernel_rfl) (by kernel_rfl) ((HX.out.below b HX.out.lt).cell 5)) ?_
            refine held_free 24 (.bool false) rfl (by kernel_rfl) (by kernel_rfl) (by kernel_rfl) (by kernel_rfl) B1 (fun _ _ => by kernel_rfl) ?_
            refine held_free 25 (.pointer (some ⟨b0, 6, none⟩)) rfl (by kernel_rfl) (by kernel_rfl) (by kernel_rfl) (by kernel_rfl) B1 (fun _ _ => ex_field (v := .pointer (some ⟨b0, 0, none⟩)) 26 (.tmp 1) 6 (by kernel_rfl) (by kernel_rfl) (by kernel_rfl)) ?_
            refine held_free 26 (.int .u64 (dsn : Int)) rfl (by kernel_rfl) (by kernel_rfl) (by kernel_rfl) (by kernel_rfl) B1 (fun W b => ex_load 22 (.tmp 28) (by kernel_rfl) ⟨b0, 6, none⟩ (by kernel_rfl) (by kernel_rfl) ((HX.out.below b HX.out.lt).cell 6)) ?_
            refine held_free 27 (.bool true) rfl (by kernel_rfl) (by kernel_rfl) (by kernel_rfl) (by kernel_rfl) B1 (fun _ _ => ex_intltb .u64 22 22 (.tmp 29) (.const (.int .u64 4294967296)) (by kernel_rfl) ((dsn : Int)) (4294967296) (by kernel_rfl) (by kernel_rfl) (by kernel_rfl) true (H2.out)) ?_
            refine held_free 28 (.bool true) rfl (by kernel_rfl) (by kernel_rfl) (by kernel_rfl) (by kernel_rfl) B1 (fun _ _ => by kernel_rfl) ?_
            refine held_free 29 (.bool true) rfl (by kernel_rfl) (by kernel_rfl) (by kernel_rfl) (by kernel_rfl) B1 (fun _ _ => by kernel_rfl) ?_
            refine held_free 30 (.bool true) rfl (by kernel_rfl) (by kernel_rfl) (by kernel_rfl) (by kernel_rfl) B1 (fun _ _ => by kernel_rfl) ?_
            refine held_free 31 (.pointer (some ⟨b0, 8, none⟩)) rfl (by kernel_rfl) (by kernel_rfl) (by kernel_rfl) (by kernel_rfl) B1 (fun _ _ => ex_field (v := .pointer (some ⟨b0, 0, none⟩)) 26 (.tmp 1) 8 (by kernel_rfl) (by kernel_rfl) (by kernel_rfl)) ?_
            refine held_free 32 (.int .i64 len) rfl (by kernel_rfl) (by kernel_rfl) (by kernel_rfl) (by kernel_rfl) B1 (fun W b => ex_load 3 (.tmp 34) (by kernel_rfl) ⟨b0, 8, none⟩ (by kernel_rfl) (by kernel_rfl) ((HX.out.below b HX.out.lt).cell 8)) ?_
            refine held_free 33 (.bool true) rfl (by kernel_rfl) (by kernel_rfl) (by kernel_rfl) (by kernel_rfl) B1 (fun _ _ => ex_intgeb .i64 3 3 (.tmp 35) (.const (.int .i64 0)) (by kernel_rfl) (len) (0) (by kernel_rfl) (by kernel_rfl) (by kernel_rfl) true (H3.out)) ?_
            refine held_free 34 (.bool true) rfl (by kernel_rfl) (by kernel_rfl) (by kernel_rfl) (by kernel_rfl) B1 (fun _ _ => by kernel_rfl) ?_
            refine held_free 35 (.bool true) rfl (by kernel_rfl) (by kernel_rfl) (by kernel_rfl) (by kernel_rfl) B1 (fun _ _ => by kernel_rfl) ?_
            refine held_free 36 (.pointer (some ⟨b0, 8, none⟩)) rfl (by kernel_rfl) (by kernel_rfl) (by kernel_rfl) (by kernel_rfl) B1 (fun _ _ => ex_field (v := .pointer (some ⟨b0, 0, none⟩)) 26 (.tmp 1) 8 (by kernel_rfl) (by kernel_rfl) (by kernel_rfl)) ?_
            refine held_free 37 (.int .i64 len) rfl (by kernel_rfl) (by kernel_rfl) (by kernel_rfl) (by kernel_rfl) B1 (fun W b => ex_load 3 (.tmp 39) (by kernel_rfl) ⟨b0, 8, none⟩ (by kernel_rfl) (by kernel_rfl) ((HX.out.below b HX.out.lt).cell 8)) ?_
            refine held_free 38 (.bool false) rfl (by kernel_rfl) (by kernel_rfl) (by kernel_rfl) (by kernel_rfl) B1 (fun _ _ => ex_intleb .i64 3 3 (.tmp 40) (.const (.int .i64 65535)) (by kernel_rfl) (len) (65535) (by kernel_rfl) (by kernel_rfl) (by kernel_rfl) false (H4.out)) ?_
            refine held_free 39 (.bool false) rfl (by kernel_rfl) (by kernel_rfl) (by kernel_rfl) (by kernel_rfl) B1 (fun _ _ => by kernel_rfl) ?_
            refine held_free 40 (.bool false) rfl (by kernel_rfl) (by kernel_rfl) (by kernel_rfl) (by kernel_rfl) B1 (fun _ _ => by kernel_rfl) ?_
            refine held_end (by kernel_rfl) ?_
            go_wp2_with fail
            rw [HMM.out]
            exact ret_slot 2 (.bool false) (by kernel_rfl) (by kernel_rfl) (by kernel_rfl) ⟨rfl, by have q := HBV.out.trans (B1.mono HBV.out.size); first | exact q | (rw [HB0.out]; exact q)⟩
        · have H0 := Lib.hid (show deq (⟨fin, true, false, ack, hm, false, dsn, ssn, len, hs, sum⟩ : Ds) (Ds.bare (⟨fin, true, false, ack, hm, false, dsn, ssn, len, hs, sum⟩ : Ds)) = true from (deq_iff _ _).2 hbare.symm)
          have H1 := Lib.hid (show decide ((ack : Int) < 4294967296) = true from decide_eq_true hack)
          have H2 := Lib.hid (show decide ((dsn : Int) < 4294967296) = true from decide_eq_true hdsn)
          have H3 := Lib.hid (show decide ((0 : Int) ≤ len) = false from decide_eq_false hlo)
          have HX := Lib.hid hx0
          have HMM := Lib.hid (show M = false from hM.trans (decide_eq_false fun m => hlo m.2.2.2.2.1))
          have HB0 := Lib.hid hb0
          have HVE := Lib.hid hV
          clear hx0 hb0 hV hM
          go_enter Try.func23, Try.ntmps23
          go_upto_region 1 with fail
          rw [← HVE.out, ← HB0.out]
          clear HVE
          have B0 : Below V.heap.size V V.drew := (Below.refl _ V).drew
          refine held_start (fun W => Below V.heap.size V W) (by kernel_rfl) (n := 41) rfl ?_
          obtain ⟨W0, hW0⟩ : ∃ W0, W0 = V.drew := ⟨_, rfl⟩
          rw [← hW0] at B0 ⊢
          clear hW0
          refine held_free 0 (.pointer (some ⟨b0, 1, none⟩)) rfl (by kernel_rfl) (by kernel_rfl) (by kernel_rfl) (by kernel_rfl) B0 (fun _ _ => ex_field (v := .pointer (some ⟨b0, 0, none⟩)) 26 (.tmp 1) 1 (by kernel_rfl) (by kernel_rfl) (by kernel_rfl)) ?_
          refine held_free 1 (.bool true) rfl (by kernel_rfl) (by kernel_rfl) (by kernel_rfl) (by kernel_rfl) B0 (fun W b => ex_load 4 (.tmp 3) (by kernel_rfl) ⟨b0, 1, none⟩ (by kernel_rfl) (by kernel_rfl) ((HX.out.below b HX.out.lt).cell 1)) ?_
          refine held_free 2 (.bool true) rfl (by kernel_rfl) (by kernel_rfl) (by kernel_rfl) (by kernel_rfl) B0 (fun _ _ => by kernel_rfl) ?_
          refine held_pass 3 rfl (by kernel_rfl) (by kernel_rfl) (by kernel_rfl) (by kernel_rfl) B0 ?_
          refine held_pass 4 rfl (by kernel_rfl) (by kernel_rfl) (by kernel_rfl) (by kernel_rfl) B0 ?_
          refine held_free 5 (.bool true) rfl (by kernel_rfl) (by kernel_rfl) (by kernel_rfl) (by kernel_rfl) B0 (fun _ _ => by kernel_rfl) ?_
          refine held_free 6 (.bool true) rfl (by kernel_rfl) (by kernel_rfl) (by kernel_rfl) (by kernel_rfl) B0 (fun _ _ => by kernel_rfl) ?_
          refine held_free 7 (.agg (dsv (⟨fin, true, false, ack, hm, false, dsn, ssn, len, hs, sum⟩ : Ds))) rfl (by kernel_rfl) (by kernel_rfl) (by kernel_rfl) (by kernel_rfl) B0 (fun W b => exec_row_ 26 (.tmp 1) (by kernel_rfl) b0 (by kernel_rfl) 26 _ (0, 0) _ (HX.out.below b HX.out.lt) Try.underlying26 rfl ds_size) ?_
          refine held_free 8 (.agg (dsv (⟨fin, true, false, ack, hm, false, dsn, ssn, len, hs, sum⟩ : Ds))) rfl (by kernel_rfl) (by kernel_rfl) (by kernel_rfl) (by kernel_rfl) B0 (fun W b => exec_row_ 26 (.tmp 1) (by kernel_rfl) b0 (by kernel_rfl) 26 _ (0, 0) _ (HX.out.below b HX.out.lt) Try.underlying26 rfl ds_size) ?_
          refine held_call 9 rfl (by kernel_rfl) (by kernel_rfl) (by kernel_rfl) (bareR_any (⟨fin, true, false, ack, hm, false, dsn, ssn, len, hs, sum⟩ : Ds) _) (fun w' h => bel_in B0 h) ?_
          intro W1 hW1
          have B1 := bel_in B0 hW1
          clear hW1 B0
          refine held_free 10 (.bool true) rfl (by kernel_rfl) (by kernel_rfl) (by kernel_rfl) (by kernel_rfl) B1 (fun W b => ex_aggeq 26 26 (.tmp 10) (.tmp 12) (by kernel_rfl) ((dsv (⟨fin, true, false, ack, hm, false, dsn, ssn, len, hs, sum⟩ : Ds))) ((dsv (Ds.bare (⟨fin, true, false, ack, hm, false, dsn, ssn, len, hs, sum⟩ : Ds)))) (by kernel_rfl) (by kernel_rfl) (by kernel_rfl) true (ds_equal_b _ _ true H0.out W)) ?_
          refine held_free 11 (.bool true) rfl (by kernel_rfl) (by kernel_rfl) (by kernel_rfl) (by kernel_rfl) B1 (fun _ _ => by kernel_rfl) ?_
          refine held_free 12 (.bool true) rfl (by kernel_rfl) (by kernel_rfl) (by kernel_rfl) (by kernel_rfl) B1 (fun _ _ => by kernel_rfl) ?_
          refine held_free 13 (.pointer (some ⟨b0, 2, none⟩)) rfl (by kernel_rfl) (by kernel_rfl) (by kernel_rfl) (by kernel_rfl) B1 (fun _ _ => ex_field (v := .pointer (some ⟨b0, 0, none⟩)) 26 (.tmp 1) 2 (by kernel_rfl) (by kernel_rfl) (by kernel_rfl)) ?_
          refine held_free 14 (.bool false) rfl (by kernel_rfl) (by kernel_rfl) (by kernel_rfl) (by kernel_rfl) B1 (fun W b => ex_load 4 (.tmp 16) (by kernel_rfl) ⟨b0, 2, none⟩ (by kernel_rfl) (by kernel_rfl) ((HX.out.below b HX.out.lt).cell 2)) ?_
          refine held_free 15 (.bool false) rfl (by kernel_rfl) (by kernel_rfl) (by kernel_rfl) (by kernel_rfl) B1 (fun _ _ => by kernel_rfl) ?_
          refine held_free 16 (.pointer (some ⟨b0, 3, none⟩)) rfl (by kernel_rfl) (by kernel_rfl) (by kernel_rfl) (by kernel_rfl) B1 (fun _ _ => ex_field (v := .pointer (some ⟨b0, 0, none⟩)) 26 (.tmp 1) 3 (by kernel_rfl) (by kernel_rfl) (by kernel_rfl)) ?_
          refine held_free 17 (.int .u64 (ack : Int)) rfl (by kernel_rfl) (by kernel_rfl) (by kernel_rfl) (by kernel_rfl) B1 (fun W b => ex_load 22 (.tmp 19) (by kernel_rfl) ⟨b0, 3, none⟩ (by kernel_rfl) (by kernel_rfl) ((HX.out.below b HX.out.lt).cell 3)) ?_
          refine held_free 18 (.bool true) rfl (by kernel_rfl) (by kernel_rfl) (by kernel_rfl) (by kernel_rfl) B1 (fun _ _ => ex_intltb .u64 22 22 (.tmp 20) (.const (.int .u64 4294967296)) (by kernel_rfl) ((ack : Int)) (4294967296) (by kernel_rfl) (by kernel_rfl) (by kernel_rfl) true (H1.out)) ?_
          refine held_free 19 (.bool true) rfl (by kernel_rfl) (by kernel_rfl) (by kernel_rfl) (by kernel_rfl) B1 (fun _ _ => by kernel_rfl) ?_
          refine held_free 20 (.bool true) rfl (by kernel_rfl) (by kernel_rfl) (by kernel_rfl) (by kernel_rfl) B1 (fun _ _ => by kernel_rfl) ?_
          refine held_free 21 (.bool true) rfl (by kernel_rfl) (by kernel_rfl) (by kernel_rfl) (by kernel_rfl) B1 (fun _ _ => by kernel_rfl) ?_
          refine held_free 22 (.pointer (some ⟨b0, 5, none⟩)) rfl (by kernel_rfl) (by kernel_rfl) (by kernel_rfl) (by kernel_rfl) B1 (fun _ _ => ex_field (v := .pointer (some ⟨b0, 0, none⟩)) 26 (.tmp 1) 5 (by kernel_rfl) (by kernel_rfl) (by kernel_rfl)) ?_
          refine held_free 23 (.bool false) rfl (by kernel_rfl) (by kernel_rfl) (by kernel_rfl) (by kernel_rfl) B1 (fun W b => ex_load 4 (.tmp 25) (by kernel_rfl) ⟨b0, 5, none⟩ (by kernel_rfl) (by kernel_rfl) ((HX.out.below b HX.out.lt).cell 5)) ?_
          refine held_free 24 (.bool false) rfl (by kernel_rfl) (by kernel_rfl) (by kernel_rfl) (by kernel_rfl) B1 (fun _ _ => by kernel_rfl) ?_
          refine held_free 25 (.pointer (some ⟨b0, 6, none⟩)) rfl (by kernel_rfl) (by kernel_rfl) (by kernel_rfl) (by kernel_rfl) B1 (fun _ _ => ex_field (v := .pointer (some ⟨b0, 0, none⟩)) 26 (.tmp 1) 6 (by kernel_rfl) (by kernel_rfl) (by kernel_rfl)) ?_
          refine held_free 26 (.int .u64 (dsn : Int)) rfl (by kernel_rfl) (by kernel_rfl) (by kernel_rfl) (by kernel_rfl) B1 (fun W b => ex_load 22 (.tmp 28) (by kernel_rfl) ⟨b0, 6, none⟩ (by kernel_rfl) (by kernel_rfl) ((HX.out.below b HX.out.lt).cell 6)) ?_
          refine held_free 27 (.bool true) rfl (by kernel_rfl) (by kernel_rfl) (by kernel_rfl) (by kernel_rfl) B1 (fun _ _ => ex_intltb .u64 22 22 (.tmp 29) (.const (.int .u64 4294967296)) (by kernel_rfl) ((dsn : Int)) (4294967296) (by kernel_rfl) (by kernel_rfl) (by kernel_rfl) true (H2.out)) ?_
          refine held_free 28 (.bool true) rfl (by kernel_rfl) (by kernel_rfl) (by kernel_rfl) (by kernel_rfl) B1 (fun _ _ => by kernel_rfl) ?_
          refine held_free 29 (.bool true) rfl (by kernel_rfl) (by kernel_rfl) (by kernel_rfl) (by kernel_rfl) B1 (fun _ _ => by kernel_rfl) ?_
          refine held_free 30 (.bool true) rfl (by kernel_rfl) (by kernel_rfl) (by kernel_rfl) (by kernel_rfl) B1 (fun _ _ => by kernel_rfl) ?_
          refine held_free 31 (.pointer (some ⟨b0, 8, none⟩)) rfl (by kernel_rfl) (by kernel_rfl) (by kernel_rfl) (by kernel_rfl) B1 (fun _ _ => ex_field (v := .pointer (some ⟨b0, 0, none⟩)) 26 (.tmp 1) 8 (by kernel_rfl) (by kernel_rfl) (by kernel_rfl)) ?_
          refine held_free 32 (.int .i64 len) rfl (by kernel_rfl) (by kernel_rfl) (by kernel_rfl) (by kernel_rfl) B1 (fun W b => ex_load 3 (.tmp 34) (by kernel_rfl) ⟨b0, 8, none⟩ (by kernel_rfl) (by kernel_rfl) ((HX.out.below b HX.out.lt).cell 8)) ?_
          refine held_free 33 (.bool false) rfl (by kernel_rfl) (by kernel_rfl) (by kernel_rfl) (by kernel_rfl) B1 (fun _ _ => ex_intgeb .i64 3 3 (.tmp 35) (.const (.int .i64 0)) (by kernel_rfl) (len) (0) (by kernel_rfl) (by kernel_rfl) (by kernel_rfl) false (H3.out)) ?_
          refine held_free 34 (.bool false) rfl (by kernel_rfl) (by kernel_rfl) (by kernel_rfl) (by kernel_rfl) B1 (fun _ _ => by kernel_rfl) ?_
          refine held_free 35 (.bool false) rfl (by kernel_rfl) (by kernel_rfl) (by kernel_rfl) (by kernel_rfl) B1 (fun _ _ => by kernel_rfl) ?_
          refine held_pass 36 rfl (by kernel_rfl) (by kernel_rfl) (by kernel_rfl) (by kernel_rfl) B1 ?_
          refine held_pass 37 rfl (by kernel_rfl) (by kernel_rfl) (by kernel_rfl) (by kernel_rfl) B1 ?_
          refine held_pass 38 rfl (by kernel_rfl) (by kernel_rfl) (by kernel_rfl) (by kernel_rfl) B1 ?_
          refine held_free 39 (.bool false) rfl (by kernel_rfl) (by kernel_rfl) (by kernel_rfl) (by kernel_rfl) B1 (fun _ _ => by kernel_rfl) ?_
          refine held_free 40 (.bool false) rfl (by kernel_rfl) (by kernel_rfl) (by kernel_rfl) (by kernel_rfl) B1 (fun _ _ => by kernel_rfl) ?_
          refine held_end (by kernel_rfl) ?_
          go_wp2_with fail
          rw [HMM.out]
          exact ret_slot 2 (.bool false) (by kernel_rfl) (by kernel_rfl) (by kernel_rfl) ⟨rfl, by have q := HBV.out.trans (B1.mono HBV.out.size); first | exact q | (rw [HB0.out]; exact q)⟩
      · have H0 := Lib.hid (show deq (⟨fin, true, false, ack, hm, false, dsn, ssn, len, hs, sum⟩ : Ds) (Ds.bare (⟨fin, true, false, ack, hm, false, dsn, ssn, len, hs, sum⟩ : Ds)) = true from (deq_iff _ _).2 hbare.symm)
        have H1 := Lib.hid (show decide ((ack : Int) < 4294967296) = true from decide_eq_true hack)
        have H2 := Lib.hid (show decide ((dsn : Int) < 4294967296) = false from decide_eq_false hdsn)
        have HX := Lib.hid hx0
        have HMM := Lib.hid (show M = false from hM.trans (decide_eq_false fun m => hdsn (by have q := m.2.2.2.1; simp at q; omega)))
        have HB0 := Lib.hid hb0
        have HVE := Lib.hid hV
        clear hx0 hb0 hV hM
        go_enter Try.func23, Try.ntmps23
        go_upto_region 1 with fail
        rw [← HVE.out, ← HB0.out]
        clear HVE
        have B0 : Below V.heap.size V V.drew := (Below.refl _ V).drew
        refine held_start (fun W => Below V.heap.size V W) (by kernel_rfl) (n := 41) rfl ?_
        obtain ⟨W0, hW0⟩ : ∃ W0, W0 = V.drew := ⟨_, rfl⟩
        rw [← hW0] at B0 ⊢
        clear hW0
        refine held_free 0 (.pointer (some ⟨b0, 1, none⟩)) rfl (by kernel_rfl) (by kernel_rfl) (by kernel_rfl) (by kernel_rfl) B0 (fun _ _ => ex_field (v := .pointer (some ⟨b0, 0, none⟩)) 26 (.tmp 1) 1 (by kernel_rfl) (by kernel_rfl) (by kernel_rfl)) ?_
        refine held_free 1 (.bool true) rfl (by kernel_rfl) (by kernel_rfl) (by kernel_rfl) (by kernel_rfl) B0 (fun W b => ex_load 4 (.tmp 3) (by kernel_rfl) ⟨b0, 1, none⟩ (by kernel_rfl) (by kernel_rfl) ((HX.out.below b HX.out.lt).cell 1)) ?_
        refine held_free 2 (.bool true) rfl (by kernel_rfl) (by kernel_rfl) (by kernel_rfl) (by kernel_rfl) B0 (fun _ _ => by kernel_rfl) ?_
        refine held_pass 3 rfl (by kernel_rfl) (by kernel_rfl) (by kernel_rfl) (by kernel_rfl) B0 ?_
        refine held_pass 4 rfl (by kernel_rfl) (by kernel_rfl) (by kernel_rfl) (by kernel_rfl) B0 ?_
        refine held_free 5 (.bool true) rfl (by kernel_rfl) (by kernel_rfl) (by kernel_rfl) (by kernel_rfl) B0 (fun _ _ => by kernel_rfl) ?_
        refine held_free 6 (.bool true) rfl (by kernel_rfl) (by kernel_rfl) (by kernel_rfl) (by kernel_rfl) B0 (fun _ _ => by kernel_rfl) ?_
        refine held_free 7 (.agg (dsv (⟨fin, true, false, ack, hm, false, dsn, ssn, len, hs, sum⟩ : Ds))) rfl (by kernel_rfl) (by kernel_rfl) (by kernel_rfl) (by kernel_rfl) B0 (fun W b => exec_row_ 26 (.tmp 1) (by kernel_rfl) b0 (by kernel_rfl) 26 _ (0, 0) _ (HX.out.below b HX.out.lt) Try.underlying26 rfl ds_size) ?_
        refine held_free 8 (.agg (dsv (⟨fin, true, false, ack, hm, false, dsn, ssn, len, hs, sum⟩ : Ds))) rfl (by kernel_rfl) (by kernel_rfl) (by kernel_rfl) (by kernel_rfl) B0 (fun W b => exec_row_ 26 (.tmp 1) (by kernel_rfl) b0 (by kernel_rfl) 26 _ (0, 0) _ (HX.out.below b HX.out.lt) Try.underlying26 rfl ds_size) ?_
        refine held_call 9 rfl (by kernel_rfl) (by kernel_rfl) (by kernel_rfl) (bareR_any (⟨fin, true, false, ack, hm, false, dsn, ssn, len, hs, sum⟩ : Ds) _) (fun w' h => bel_in B0 h) ?_
        intro W1 hW1
        have B1 := bel_in B0 hW1
        clear hW1 B0
        refine held_free 10 (.bool true) rfl (by kernel_rfl) (by kernel_rfl) (by kernel_rfl) (by kernel_rfl) B1 (fun W b => ex_aggeq 26 26 (.tmp 10) (.tmp 12) (by kernel_rfl) ((dsv (⟨fin, true, false, ack, hm, false, dsn, ssn, len, hs, sum⟩ : Ds))) ((dsv (Ds.bare (⟨fin, true, false, ack, hm, false, dsn, ssn, len, hs, sum⟩ : Ds)))) (by kernel_rfl) (by kernel_rfl) (by kernel_rfl) true (ds_equal_b _ _ true H0.out W)) ?_
        refine held_free 11 (.bool true) rfl (by kernel_rfl) (by kernel_rfl) (by kernel_rfl) (by kernel_rfl) B1 (fun _ _ => by kernel_rfl) ?_
        refine held_free 12 (.bool true) rfl (by kernel_rfl) (by kernel_rfl) (by kernel_rfl) (by kernel_rfl) B1 (fun _ _ => by kernel_rfl) ?_
        refine held_free 13 (.pointer (some ⟨b0, 2, none⟩)) rfl (by kernel_rfl) (by kernel_rfl) (by kernel_rfl) (by kernel_rfl) B1 (fun _ _ => ex_field (v := .pointer (some ⟨b0, 0, none⟩)) 26 (.tmp 1) 2 (by kernel_rfl) (by kernel_rfl) (by kernel_rfl)) ?_
        refine held_free 14 (.bool false) rfl (by kernel_rfl) (by kernel_rfl) (by kernel_rfl) (by kernel_rfl) B1 (fun W b => ex_load 4 (.tmp 16) (by kernel_rfl) ⟨b0, 2, none⟩ (by kernel_rfl) (by kernel_rfl) ((HX.out.below b HX.out.lt).cell 2)) ?_
        refine held_free 15 (.bool false) rfl (by kernel_rfl) (by kernel_rfl) (by kernel_rfl) (by kernel_rfl) B1 (fun _ _ => by kernel_rfl) ?_
        refine held_free 16 (.pointer (some ⟨b0, 3, none⟩)) rfl (by kernel_rfl) (by kernel_rfl) (by kernel_rfl) (by kernel_rfl) B1 (fun _ _ => ex_field (v := .pointer (some ⟨b0, 0, none⟩)) 26 (.tmp 1) 3 (by kernel_rfl) (by kernel_rfl) (by kernel_rfl)) ?_
        refine held_free 17 (.int .u64 (ack : Int)) rfl (by kernel_rfl) (by kernel_rfl) (by kernel_rfl) (by kernel_rfl) B1 (fun W b => ex_load 22 (.tmp 19) (by kernel_rfl) ⟨b0, 3, none⟩ (by kernel_rfl) (by kernel_rfl) ((HX.out.below b HX.out.lt).cell 3)) ?_
        refine held_free 18 (.bool true) rfl (by kernel_rfl) (by kernel_rfl) (by kernel_rfl) (by kernel_rfl) B1 (fun _ _ => ex_intltb .u64 22 22 (.tmp 20) (.const (.int .u64 4294967296)) (by kernel_rfl) ((ack : Int)) (4294967296) (by kernel_rfl) (by kernel_rfl) (by kernel_rfl) true (H1.out)) ?_
        refine held_free 19 (.bool true) rfl (by kernel_rfl) (by kernel_rfl) (by kernel_rfl) (by kernel_rfl) B1 (fun _ _ => by kernel_rfl) ?_
        refine held_free 20 (.bool true) rfl (by kernel_rfl) (by kernel_rfl) (by kernel_rfl) (by kernel_rfl) B1 (fun _ _ => by kernel_rfl) ?_
        refine held_free 21 (.bool true) rfl (by kernel_rfl) (by kernel_rfl) (by kernel_rfl) (by kernel_rfl) B1 (fun _ _ => by kernel_rfl) ?_
        refine held_free 22 (.pointer (some ⟨b0, 5, none⟩)) rfl (by kernel_rfl) (by kernel_rfl) (by kernel_rfl) (by kernel_rfl) B1 (fun _ _ => ex_field (v := .pointer (some ⟨b0, 0, none⟩)) 26 (.tmp 1) 5 (by kernel_rfl) (by kernel_rfl) (by kernel_rfl)) ?_
        refine held_free 23 (.bool false) rfl (by kernel_rfl) (by kernel_rfl) (by kernel_rfl) (by kernel_rfl) B1 (fun W b => ex_load 4 (.tmp 25) (by kernel_rfl) ⟨b0, 5, none⟩ (by kernel_rfl) (by kernel_rfl) ((HX.out.below b HX.out.lt).cell 5)) ?_
        refine held_free 24 (.bool false) rfl (by kernel_rfl) (by kernel_rfl) (by kernel_rfl) (by kernel_rfl) B1 (fun _ _ => by kernel_rfl) ?_
        refine held_free 25 (.pointer (some ⟨b0, 6, none⟩)) rfl (by kernel_rfl) (by kernel_rfl) (by kernel_rfl) (by kernel_rfl) B1 (fun _ _ => ex_field (v := .pointer (some ⟨b0, 0, none⟩)) 26 (.tmp 1) 6 (by kernel_rfl) (by kernel_rfl) (by kernel_rfl)) ?_
        refine held_free 26 (.int .u64 (dsn : Int)) rfl (by kernel_rfl) (by kernel_rfl) (by kernel_rfl) (by kernel_rfl) B1 (fun W b => ex_load 22 (.tmp 28) (by kernel_rfl) ⟨b0, 6, none⟩ (by kernel_rfl) (by kernel_rfl) ((HX.out.below b HX.out.lt).cell 6)) ?_
        refine held_free 27 (.bool false) rfl (by kernel_rfl) (by kernel_rfl) (by kernel_rfl) (by kernel_rfl) B1 (fun _ _ => ex_intltb .u64 22 22 (.tmp 29) (.const (.int .u64 4294967296)) (by kernel_rfl) ((dsn : Int)) (4294967296) (by kernel_rfl) (by kernel_rfl) (by kernel_rfl) false (H2.out)) ?_
        refine held_free 28 (.bool false) rfl (by kernel_rfl) (by kernel_rfl) (by kernel_rfl) (by kernel_rfl) B1 (fun _ _ => by kernel_rfl) ?_
        refine held_free 29 (.bool false) rfl (by kernel_rfl) (by kernel_rfl) (by kernel_rfl) (by kernel_rfl) B1 (fun _ _ => by kernel_rfl) ?_
        refine held_free 30 (.bool false) rfl (by kernel_rfl) (by kernel_rfl) (by kernel_rfl) (by kernel_rfl) B1 (fun _ _ => by kernel_rfl) ?_
        refine held_pass 31 rfl (by kernel_rfl) (by kernel_rfl) (by kernel_rfl) (by kernel_rfl) B1 ?_
        refine held_pass 32 rfl (by kernel_rfl) (by kernel_rfl) (by kernel_rfl) (by kernel_rfl) B1 ?_
        refine held_pass 33 rfl (by kernel_rfl) (by kernel_rfl) (by kernel_rfl) (by kernel_rfl) B1 ?_
        refine held_free 34 (.bool false) rfl (by kernel_rfl) (by kernel_rfl) (by kernel_rfl) (by kernel_rfl) B1 (fun _ _ => by kernel_rfl) ?_
        refine held_free 35 (.bool false) rfl (by kernel_rfl) (by kernel_rfl) (by kernel_rfl) (by kernel_rfl) B1 (fun _ _ => by kernel_rfl) ?_
        refine held_pass 36 rfl (by kernel_rfl) (by kernel_rfl) (by kernel_rfl) (by kernel_rfl) B1 ?_
        refine held_pass 37 rfl (by kernel_rfl) (by kernel_rfl) (by kernel_rfl) (by kernel_rfl) B1 ?_
        refine held_pass 38 rfl (by kernel_rfl) (by kernel_rfl) (by kernel_rfl) (by kernel_rfl) B1 ?_
        refine held_free 39 (.bool false) rfl (by kernel_rfl) (by kernel_rfl) (by kernel_rfl) (by kernel_rfl) B1 (fun _ _ => by kernel_rfl) ?_
        refine held_free 40 (.bool false) rfl (by kernel_rfl) (by kernel_rfl) (by kernel_rfl) (by kernel_rfl) B1 (fun _ _ => by kernel_rfl) ?_
        refine held_end (by kernel_rfl) ?_
        go_wp2_with fail
        rw [HMM.out]
        exact ret_slot 2 (.bool false) (by kernel_rfl) (by kernel_rfl) (by kernel_rfl) ⟨rfl, by have q := HBV.out.trans (B1.mono HBV.out.size); first | exact q | (rw [HB0.out]; exact q)⟩
    · have H0 := Lib.hid (show deq (⟨fin, true, false, ack, hm, false, dsn, ssn, len, hs, sum⟩ : Ds) (Ds.bare (⟨fin, true, false, ack, hm, false, dsn, ssn, len, hs, sum⟩ : Ds)) = true from (deq_iff _ _).2 hbare.symm)
      have H1 := Lib.hid (show decide ((ack : Int) < 4294967296) = false from decide_eq_false hack)
      have HX := Lib.hid hx0
      have HMM := Lib.hid (show M = false from hM.trans (decide_eq_false fun m => hack (by have q := m.2.2.1; simp at q; omega)))
      have HB0 := Lib.hid hb0
      have HVE := Lib.hid hV
      clear hx0 hb0 hV hM
      go_enter Try.func23, Try.ntmps23
      go_upto_region 1 with fail
      rw [← HVE.out, ← HB0.out]
      clear HVE
      have B0 : Below V.heap.size V V.drew := (Below.refl _ V).drew
      refine held_start (fun W => Below V.heap.size V W) (by kernel_rfl) (n := 41) rfl ?_
      obtain ⟨W0, hW0⟩ : ∃ W0, W0 = V.drew := ⟨_, rfl⟩
      rw [← hW0] at B0 ⊢
      clear hW0
      refine held_free 0 (.pointer (some ⟨b0, 1, none⟩)) rfl (by kernel_rfl) (by kernel_rfl) (by kernel_rfl) (by kernel_rfl) B0 (fun _ _ => ex_field (v := .pointer (some ⟨b0, 0, none⟩)) 26 (.tmp 1) 1 (by kernel_rfl) (by kernel_rfl) (by kernel_rfl)) ?_
      refine held_free 1 (.bool true) rfl (by kernel_rfl) (by kernel_rfl) (by kernel_rfl) (by kernel_rfl) B0 (fun W b => ex_load 4 (.tmp 3) (by kernel_rfl) ⟨b0, 1, none⟩ (by kernel_rfl) (by kernel_rfl) ((HX.out.below b HX.out.lt).cell 1)) ?_
      refine held_free 2 (.bool true) rfl (by kernel_rfl) (by kernel_rfl) (by kernel_rfl) (by kernel_rfl) B0 (fun _ _ => by kernel_rfl) ?_
      refine held_pass 3 rfl (by kernel_rfl) (by kernel_rfl) (by kernel_rfl) (by kernel_rfl) B0 ?_
      refine held_pass 4 rfl (by kernel_rfl) (by kernel_rfl) (by kernel_rfl) (by kernel_rfl) B0 ?_
      refine held_free 5 (.bool true) rfl (by kernel_rfl) (by kernel_rfl) (by kernel_rfl) (by kernel_rfl) B0 (fun _ _ => by kernel_rfl) ?_
      refine held_free 6 (.bool true) rfl (by kernel_rfl) (by kernel_rfl) (by kernel_rfl) (by kernel_rfl) B0 (fun _ _ => by kernel_rfl) ?_
      refine held_free 7 (.agg (dsv (⟨fin, true, false, ack, hm, false, dsn, ssn, len, hs, sum⟩ : Ds))) rfl (by kernel_rfl) (by kernel_rfl) (by kernel_rfl) (by kernel_rfl) B0 (fun W b => exec_row_ 26 (.tmp 1) (by kernel_rfl) b0 (by kernel_rfl) 26 _ (0, 0) _ (HX.out.below b HX.out.lt) Try.underlying26 rfl ds_size) ?_
      refine held_free 8 (.agg (dsv (⟨fin, true, false, ack, hm, false, dsn, ssn, len, hs, sum⟩ : Ds))) rfl (by kernel_rfl) (by kernel_rfl) (by kernel_rfl) (by kernel_rfl) B0 (fun W b => exec_row_ 26 (.tmp 1) (by kernel_rfl) b0 (by kernel_rfl) 26 _ (0, 0) _ (HX.out.below b HX.out.lt) Try.underlying26 rfl ds_size) ?_
      refine held_call 9 rfl (by kernel_rfl) (by kernel_rfl) (by kernel_rfl) (bareR_any (⟨fin, true, false, ack, hm, false, dsn, ssn, len, hs, sum⟩ : Ds) _) (fun w' h => bel_in B0 h) ?_
      intro W1 hW1
      have B1 := bel_in B0 hW1
      clear hW1 B0
      refine held_free 10 (.bool true) rfl (by kernel_rfl) (by kernel_rfl) (by kernel_rfl) (by kernel_rfl) B1 (fun W b => ex_aggeq 26 26 (.tmp 10) (.tmp 12) (by kernel_rfl) ((dsv (⟨fin, true, false, ack, hm, false, dsn, ssn, len, hs, sum⟩ : Ds))) ((dsv (Ds.bare (⟨fin, true, false, ack, hm, false, dsn, ssn, len, hs, sum⟩ : Ds)))) (by kernel_rfl) (by kernel_rfl) (by kernel_rfl) true (ds_equal_b _ _ true H0.out W)) ?_
      refine held_free 11 (.bool true) rfl (by kernel_rfl) (by kernel_rfl) (by kernel_rfl) (by kernel_rfl) B1 (fun _ _ => by kernel_rfl) ?_
      refine held_free 12 (.bool true) rfl (by kernel_rfl) (by kernel_rfl) (by kernel_rfl) (by kernel_rfl) B1 (fun _ _ => by kernel_rfl) ?_
      refine held_free 13 (.pointer (some ⟨b0, 2, none⟩)) rfl (by kernel_rfl) (by kernel_rfl) (by kernel_rfl) (by kernel_rfl) B1 (fun _ _ => ex_field (v := .pointer (some ⟨b0, 0, none⟩)) 26 (.tmp 1) 2 (by kernel_rfl) (by kernel_rfl) (by kernel_rfl)) ?_
      refine held_free 14 (.bool false) rfl (by kernel_rfl) (by kernel_rfl) (by kernel_rfl) (by kernel_rfl) B1 (fun W b => ex_load 4 (.tmp 16) (by kernel_rfl) ⟨b0, 2, none⟩ (by kernel_rfl) (by kernel_rfl) ((HX.out.below b HX.out.lt).cell 2)) ?_
      refine held_free 15 (.bool false) rfl (by kernel_rfl) (by kernel_rfl) (by kernel_rfl) (by kernel_rfl) B1 (fun _ _ => by kernel_rfl) ?_
      refine held_free 16 (.pointer (some ⟨b0, 3, none⟩)) rfl (by kernel_rfl) (by kernel_rfl) (by kernel_rfl) (by kernel_rfl) B1 (fun _ _ => ex_field (v := .pointer (some ⟨b0, 0, none⟩)) 26 (.tmp 1) 3 (by kernel_rfl) (by kernel_rfl) (by kernel_rfl)) ?_
      refine held_free 17 (.int .u64 (ack : Int)) rfl (by kernel_rfl) (by kernel_rfl) (by kernel_rfl) (by kernel_rfl) B1 (fun W b => ex_load 22 (.tmp 19) (by kernel_rfl) ⟨b0, 3, none⟩ (by kernel_rfl) (by kernel_rfl) ((HX.out.below b HX.out.lt).cell 3)) ?_
      refine held_free 18 (.bool false) rfl (by kernel_rfl) (by kernel_rfl) (by kernel_rfl) (by kernel_rfl) B1 (fun _ _ => ex_intltb .u64 22 22 (.tmp 20) (.const (.int .u64 4294967296)) (by kernel_rfl) ((ack : Int)) (4294967296) (by kernel_rfl) (by kernel_rfl) (by kernel_rfl) false (H1.out)) ?_
      refine held_free 19 (.bool false) rfl (by kernel_rfl) (by kernel_rfl) (by kernel_rfl) (by kernel_rfl) B1 (fun _ _ => by kernel_rfl) ?_
      refine held_free 20 (.bool false) rfl (by kernel_rfl) (by kernel_rfl) (by kernel_rfl) (by kernel_rfl) B1 (fun _ _ => by kernel_rfl) ?_
      refine held_free 21 (.bool false) rfl (by kernel_rfl) (by kernel_rfl) (by kernel_rfl) (by kernel_rfl) B1 (fun _ _ => by kernel_rfl) ?_
      refine held_pass 22 rfl (by kernel_rfl) (by kernel_rfl) (by kernel_rfl) (by kernel_rfl) B1 ?_
      refine held_pass 23 rfl (by kernel_rfl) (by kernel_rfl) (by kernel_rfl) (by kernel_rfl) B1 ?_
      refine held_pass 24 rfl (by kernel_rfl) (by kernel_rfl) (by kernel_rfl) (by kernel_rfl) B1 ?_
      refine held_pass 25 rfl (by kernel_rfl) (by kernel_rfl) (by kernel_rfl) (by kernel_rfl) B1 ?_
      refine held_pass 26 rfl (by kernel_rfl) (by kernel_rfl) (by kernel_rfl) (by kernel_rfl) B1 ?_
      refine held_pass 27 rfl (by kernel_rfl) (by kernel_rfl) (by kernel_rfl) (by kernel_rfl) B1 ?_
      refine held_pass 28 rfl (by kernel_rfl) (by kernel_rfl) (by kernel_rfl) (by kernel_rfl) B1 ?_
      refine held_free 29 (.bool false) rfl (by kernel_rfl) (by kernel_rfl) (by kernel_rfl) (by kernel_rfl) B1 (fun _ _ => by kernel_rfl) ?_
      refine held_free 30 (.bool false) rfl (by kernel_rfl) (by kernel_rfl) (by kernel_rfl) (by kernel_rfl) B1 (fun _ _ => by kernel_rfl) ?_
      refine held_pass 31 rfl (by kernel_rfl) (by kernel_rfl) (by kernel_rfl) (by kernel_rfl) B1 ?_
      refine held_pass 32 rfl (by kernel_rfl) (by kernel_rfl) (by kernel_rfl) (by kernel_rfl) B1 ?_
      refine held_pass 33 rfl (by kernel_rfl) (by kernel_rfl) (by kernel_rfl) (by kernel_rfl) B1 ?_
      refine held_free 34 (.bool false) rfl (by kernel_rfl) (by kernel_rfl) (by kernel_rfl) (by kernel_rfl) B1 (fun _ _ => by kernel_rfl) ?_
      refine held_free 35 (.bool false) rfl (by kernel_rfl) (by kernel_rfl) (by kernel_rfl) (by kernel_rfl) B1 (fun _ _ => by kernel_rfl) ?_
      refine held_pass 36 rfl (by kernel_rfl) (by kernel_rfl) (by kernel_rfl) (by kernel_rfl) B1 ?_
      refine held_pass 37 rfl (by kernel_rfl) (by kernel_rfl) (by kernel_rfl) (by kernel_rfl) B1 ?_
      refine held_pass 38 rfl (by kernel_rfl) (by kernel_rfl) (by kernel_rfl) (by kernel_rfl) B1 ?_
      refine held_free 39 (.bool false) rfl (by kernel_rfl) (by kernel_rfl) (by kernel_rfl) (by kernel_rfl) B1 (fun _ _ => by kernel_rfl) ?_
      refine held_free 40 (.bool false) rfl (by kernel_rfl) (by kernel_rfl) (by kernel_rfl) (by kernel_rfl) B1 (fun _ _ => by kernel_rfl) ?_
      refine held_end (by kernel_rfl) ?_
      go_wp2_with fail
      rw [HMM.out]
      exact ret_slot 2 (.bool false) (by kernel_rfl) (by kernel_rfl) (by kernel_rfl) ⟨rfl, by have q := HBV.out.trans (B1.mono HBV.out.size); first | exact q | (rw [HB0.out]; exact q)⟩
  · have H0 := Lib.hid (show deq (⟨fin, true, false, ack, hm, false, dsn, ssn, len, hs, sum⟩ : Ds) (Ds.bare (⟨fin, true, false, ack, hm, false, dsn, ssn, len, hs, sum⟩ : Ds)) = false from deq_ne fun q => hbare q.symm)
    have HX := Lib.hid hx0
    have HMM := Lib.hid (show M = false from hM.trans (decide_eq_false fun m => hbare ((Ds.bare_iff _).2 m.2.1)))
    have HB0 := Lib.hid hb0
    have HVE := Lib.hid hV
    clear hx0 hb0 hV hM
    go_enter Try.func23, Try.ntmps23
    go_upto_region 1 with fail
    rw [← HVE.out, ← HB0.out]
    clear HVE
    have B0 : Below V.heap.size V V.drew := (Below.refl _ V).drew
    refine held_start (fun W => Below V.heap.size V W) (by kernel_rfl) (n := 41) rfl ?_
    obtain ⟨W0, hW0⟩ : ∃ W0, W0 = V.drew := ⟨_, rfl⟩
    rw [← hW0] at B0 ⊢
    clear hW0
    refine held_free 0 (.pointer (some ⟨b0, 1, none⟩)) rfl (by kernel_rfl) (by kernel_rfl) (by kernel_rfl) (by kernel_rfl) B0 (fun _ _ => ex_field (v := .pointer (some ⟨b0, 0, none⟩)) 26 (.tmp 1) 1 (by kernel_rfl) (by kernel_rfl) (by kernel_rfl)) ?_
    refine held_free 1 (.bool true) rfl (by kernel_rfl) (by kernel_rfl) (by kernel_rfl) (by kernel_rfl) B0 (fun W b => ex_load 4 (.tmp 3) (by kernel_rfl) ⟨b0, 1, none⟩ (by kernel_rfl) (by kernel_rfl) ((HX.out.below b HX.out.lt).cell 1)) ?_
    refine held_free 2 (.bool true) rfl (by kernel_rfl) (by kernel_rfl) (by kernel_rfl) (by kernel_rfl) B0 (fun _ _ => by kernel_rfl) ?_
    refine held_pass 3 rfl (by kernel_rfl) (by kernel_rfl) (by kernel_rfl) (by kernel_rfl) B0 ?_
    refine held_pass 4 rfl (by kernel_rfl) (by kernel_rfl) (by kernel_rfl) (by kernel_rfl) B0 ?_
    refine held_free 5 (.bool true) rfl (by kernel_rfl) (by kernel_rfl) (by kernel_rfl) (by kernel_rfl) B0 (fun _ _ => by kernel_rfl) ?_
    refine held_free 6 (.bool true) rfl (by kernel_rfl) (by kernel_rfl) (by kernel_rfl) (by kernel_rfl) B0 (fun _ _ => by kernel_rfl) ?_
    refine held_free 7 (.agg (dsv (⟨fin, true, false, ack, hm, false, dsn, ssn, len, hs, sum⟩ : Ds))) rfl (by kernel_rfl) (by kernel_rfl) (by kernel_rfl) (by kernel_rfl) B0 (fun W b => exec_row_ 26 (.tmp 1) (by kernel_rfl) b0 (by kernel_rfl) 26 _ (0, 0) _ (HX.out.below b HX.out.lt) Try.underlying26 rfl ds_size) ?_
    refine held_free 8 (.agg (dsv (⟨fin, true, false, ack, hm, false, dsn, ssn, len, hs, sum⟩ : Ds))) rfl (by kernel_rfl) (by kernel_rfl) (by kernel_rfl) (by kernel_rfl) B0 (fun W b => exec_row_ 26 (.tmp 1) (by kernel_rfl) b0 (by kernel_rfl) 26 _ (0, 0) _ (HX.out.below b HX.out.lt) Try.underlying26 rfl ds_size) ?_
    refine held_call 9 rfl (by kernel_rfl) (by kernel_rfl) (by kernel_rfl) (bareR_any (⟨fin, true, false, ack, hm, false, dsn, ssn, len, hs, sum⟩ : Ds) _) (fun w' h => bel_in B0 h) ?_
    intro W1 hW1
    have B1 := bel_in B0 hW1
    clear hW1 B0
    refine held_free 10 (.bool false) rfl (by kernel_rfl) (by kernel_rfl) (by kernel_rfl) (by kernel_rfl) B1 (fun W b => ex_aggeq 26 26 (.tmp 10) (.tmp 12) (by kernel_rfl) ((dsv (⟨fin, true, false, ack, hm, false, dsn, ssn, len, hs, sum⟩ : Ds))) ((dsv (Ds.bare (⟨fin, true, false, ack, hm, false, dsn, ssn, len, hs, sum⟩ : Ds)))) (by kernel_rfl) (by kernel_rfl) (by kernel_rfl) false (ds_equal_b _ _ false H0.out W)) ?_
    refine held_free 11 (.bool false) rfl (by kernel_rfl) (by kernel_rfl) (by kernel_rfl) (by kernel_rfl) B1 (fun _ _ => by kernel_rfl) ?_
    refine held_free 12 (.bool false) rfl (by kernel_rfl) (by kernel_rfl) (by kernel_rfl) (by kernel_rfl) B1 (fun _ _ => by kernel_rfl) ?_
    refine held_pass 13 rfl (by kernel_rfl) (by kernel_rfl) (by kernel_rfl) (by kernel_rfl) B1 ?_
    refine held_pass 14 rfl (by kernel_rfl) (by kernel_rfl) (by kernel_rfl) (by kernel_rfl) B1 ?_
    refine held_pass 15 rfl (by kernel_rfl) (by kernel_rfl) (by kernel_rfl) (by kernel_rfl) B1 ?_
    refine held_pass 16 rfl (by kernel_rfl) (by kernel_rfl) (by kernel_rfl) (by kernel_rfl) B1 ?_
    refine held_pass 17 rfl (by kernel_rfl) (by kernel_rfl) (by kernel_rfl) (by kernel_rfl) B1 ?_
    refine held_pass 18 rfl (by kernel_rfl) (by kernel_rfl) (by kernel_rfl) (by kernel_rfl) B1 ?_
    refine held_pass 19 rfl (by kernel_rfl) (by kernel_rfl) (by kernel_rfl) (by kernel_rfl) B1 ?_
    refine held_free 20 (.bool false) rfl (by kernel_rfl) (by kernel_rfl) (by kernel_rfl) (by kernel_rfl) B1 (fun _ _ => by kernel_rfl) ?_
    refine held_free 21 (.bool false) rfl (by kernel_rfl) (by kernel_rfl) (by kernel_rfl) (by kernel_rfl) B1 (fun _ _ => by kernel_rfl) ?_
    refine held_pass 22 rfl (by kernel_rfl) (by kernel_rfl) (by kernel_rfl) (by kernel_rfl) B1 ?_
    refine held_pass 23 rfl (by kernel_rfl) (by kernel_rfl) (by kernel_rfl) (by kernel_rfl) B1 ?_
    refine held_pass 24 rfl (by kernel_rfl) (by kernel_rfl) (by kernel_rfl) (by kernel_rfl) B1 ?_
    refine held_pass 25 rfl (by kernel_rfl) (by kernel_rfl) (by kernel_rfl) (by kernel_rfl) B1 ?_
    refine held_pass 26 rfl (by kernel_rfl) (by kernel_rfl) (by kernel_rfl) (by kernel_rfl) B1 ?_
    refine held_pass 27 rfl (by kernel_rfl) (by kernel_rfl) (by kernel_rfl) (by kernel_rfl) B1 ?_
    refine held_pass 28 rfl (by kernel_rfl) (by kernel_rfl) (by kernel_rfl) (by kernel_rfl) B1 ?_
    refine held_free 29 (.bool false) rfl (by kernel_rfl) (by kernel_rfl) (by kernel_rfl) (by kernel_rfl) B1 (fun _ _ => by kernel_rfl) ?_
    refine held_free 30 (.bool false) rfl (by kernel_rfl) (by kernel_rfl) (by kernel_rfl) (by kernel_rfl) B1 (fun _ _ => by kernel_rfl) ?_
    refine held_pass 31 rfl (by kernel_rfl) (by kernel_rfl) (by kernel_rfl) (by kernel_rfl) B1 ?_
    refine held_pass 32 rfl (by kernel_rfl) (by kernel_rfl) (by kernel_rfl) (by kernel_rfl) B1 ?_
    refine held_pass 33 rfl (by kernel_rfl) (by kernel_rfl) (by kernel_rfl) (by kernel_rfl) B1 ?_
    refine held_free 34 (.bool false) rfl (by kernel_rfl) (by kernel_rfl) (by kernel_rfl) (by kernel_rfl) B1 (fun _ _ => by kernel_rfl) ?_
    refine held_free 35 (.bool false) rfl (by kernel_rfl) (by kernel_rfl) (by kernel_rfl) (by kernel_rfl) B1 (fun _ _ => by kernel_rfl) ?_
    refine held_pass 36 rfl (by kernel_rfl) (by kernel_rfl) (by kernel_rfl) (by kernel_rfl) B1 ?_
    refine held_pass 37 rfl (by kernel_rfl) (by kernel_rfl) (by kernel_rfl) (by kernel_rfl) B1 ?_
    refine held_pass 38 rfl (by kernel_rfl) (by kernel_rfl) (by kernel_rfl) (by kernel_rfl) B1 ?_
    refine held_free 39 (.bool false) rfl (by kernel_rfl) (by kernel_rfl) (by kernel_rfl) (by kernel_rfl) B1 (fun _ _ => by kernel_rfl) ?_
    refine held_free 40 (.bool false) rfl (by kernel_rfl) (by kernel_rfl) (by kernel_rfl) (by kernel_rfl) B1 (fun _ _ => by kernel_rfl) ?_
    refine held_end (by kernel_rfl) ?_
    go_wp2_with fail
    rw [HMM.out]
    exact ret_slot 2 (.bool false) (by kernel_rfl) (by kernel_rfl) (by kernel_rfl) ⟨rfl, by have q := HBV.out.trans (B1.mono HBV.out.size); first | exact q | (rw [HB0.out]; exact q)⟩
set_option maxHeartbeats 1000000 in
set_option maxRecDepth 100000 in
theorem mayR_ack_false_true (fin : Bool) (ack : Nat) (hm : Bool) (dsn : Nat) (ssn : Nat) (len : Int) (hs : Bool) (sum : Nat) (w : World) :
    Calls Try.prog 23 #[.agg (dsv (⟨fin, true, false, ack, hm, true, dsn, ssn, len, hs, sum⟩ : Ds))] w fun e w' => e = .returned (.bool (decide (Ds.May (⟨fin, true, false, ack, hm, true, dsn, ssn, len, hs, sum⟩ : Ds)))) ∧ Below w.heap.size w w' := by
  obtain ⟨V, hV⟩ : ∃ V, V = w.alloc (.cells (dsv (⟨fin, true, false, ack, hm, true, dsn, ssn, len, hs, sum⟩ : Ds)) 26) := ⟨_, rfl⟩
  obtain ⟨b0, hb0⟩ : ∃ b0, b0 = w.heap.size := ⟨_, rfl⟩
  obtain ⟨M, hM⟩ : ∃ M, M = decide (Ds.May (⟨fin, true, false, ack, hm, true, dsn, ssn, len, hs, sum⟩ : Ds)) := ⟨_, rfl⟩
  rw [← hM]
  have HBV := Lib.hid (show Below w.heap.size w V by rw [hV]; exact (Below.refl _ w).alloc (Nat.le_refl _) _)
  have hx0 : Blk V b0 26 (dsv (⟨fin, true, false, ack, hm, true, dsn, ssn, len, hs, sum⟩ : Ds)) := by rw [hV, hb0]; exact Blk.new _ _ _
  by_cases hbare : Ds.bare (⟨fin, true, false, ack, hm, true, dsn, ssn, len, hs, sum⟩ : Ds) = (⟨fin, true, false, ack, hm, true, dsn, ssn, len, hs, sum⟩ : Ds)
  · by_cases hack : (ack : Int) < 4294967296
    · by_cases hlo : 0 ≤ len
      · by_cases hhi : len ≤ 65535
        · have H0 := Lib.hid (show deq (⟨fin, true, false, ack, hm, true, dsn, ssn, len, hs, sum⟩ : Ds) (Ds.bare (⟨fin, true, false, ack, hm, true, dsn, ssn, len, hs, sum⟩ : Ds)) = true from (deq_iff _ _).2 hbare.symm)
          have H1 := Lib.hid (show decide ((ack : Int) < 4294967296) = true from decide_eq_true hack)
          have H3 := Lib.hid (show decide ((0 : Int) ≤ len) = true from decide_eq_true hlo)
          have H4 := Lib.hid (show decide (len ≤ 65535) = true from decide_eq_true hhi)
          have HX := Lib.hid hx0
          have HMM := Lib.hid (show M = true from hM.trans (decide_eq_true ⟨.inl rfl, (Ds.bare_iff _).1 hbare, .inr (by simp only []; omega), .inl rfl, hlo, hhi⟩))
          have HB0 := Lib.hid hb0
          have HVE := Lib.hid hV
          clear hx0 hb0 hV hM
          go_enter Try.func23, Try.ntmps23
          go_upto_region 1 with fail
          rw [← HVE.out, ← HB0.out]
          clear HVE
          have B0 : Below V.heap.size V V.drew := (Below.refl _ V).drew
          refine held_start (fun W => Below V.heap.size V W) (by kernel_rfl) (n := 41) rfl ?_
          obtain ⟨W0, hW0⟩ : ∃ W0, W0 = V.drew := ⟨_, rfl⟩
          rw [← hW0] at B0 ⊢
          clear hW0
          refine held_free 0 (.pointer (some ⟨b0, 1, none⟩)) rfl (by kernel_rfl) (by kernel_rfl) (by kernel_rfl) (by kernel_rfl) B0 (fun _ _ => ex_field (v := .pointer (some ⟨b0, 0, none⟩)) 26 (.tmp 1) 1 (by kernel_rfl) (by kernel_rfl) (by kernel_rfl)) ?_
          refine held_free 1 (.bool true) rfl (by kernel_rfl) (by kernel_rfl) (by kernel_rfl) (by kernel_rfl) B0 (fun W b => ex_load 4 (.tmp 3) (by kernel_rfl) ⟨b0, 1, none⟩ (by kernel_rfl) (by kernel_rfl) ((HX.out.below b HX.out.lt).cell 1)) ?_
          refine held_free 2 (.bool true) rfl (by kernel_rfl) (by kernel_rfl) (by kernel_rfl) (by kernel_rfl) B0 (fun _ _ => by kernel_rfl) ?_
          refine held_pass 3 rfl (by kernel_rfl) (by kernel_rfl) (by kernel_rfl) (by kernel_rfl) B0 ?_
          refine held_pass 4 rfl (by kernel_rfl) (by kernel_rfl) (by kernel_rfl) (by kernel_rfl) B0 ?_
          refine held_free 5 (.bool true) rfl (by kernel_rfl) (by kernel_rfl) (by kernel_rfl) (by kernel_rfl) B0 (fun _ _ => by kernel_rfl) ?_
          refine held_free 6 (.bool true) rfl (by kernel_rfl) (by kernel_rfl) (by kernel_rfl) (by kernel_rfl) B0 (fun _ _ => by kernel_rfl) ?_
          refine held_free 7 (.agg (dsv (⟨fin, true, false, ack, hm, true, dsn, ssn, len, hs, sum⟩ : Ds))) rfl (by kernel_rfl) (by kernel_rfl) (by kernel_rfl) (by kernel_rfl) B0 (fun W b => exec_row_ 26 (.tmp 1) (by kernel_rfl) b0 (by kernel_rfl) 26 _ (0, 0) _ (HX.out.below b HX.out.lt) Try.underlying26 rfl ds_size) ?_
          refine held_free 8 (.agg (dsv (⟨fin, true, false, ack, hm, true, dsn, ssn, len, hs, sum⟩ : Ds))) rfl (by kernel_rfl) (by kernel_rfl) (by kernel_rfl) (by kernel_rfl) B0 (fun W b => exec_row_ 26 (.tmp 1) (by kernel_rfl) b0 (by kernel_rfl) 26 _ (0, 0) _ (HX.out.below b HX.out.lt) Try.underlying26 rfl ds_size) ?_
          refine held_call 9 rfl (by kernel_rfl) (by kernel_rfl) (by kernel_rfl) (bareR_any (⟨fin, true, false, ack, hm, true, dsn, ssn, len, hs, sum⟩ : Ds) _) (fun w' h => bel_in B0 h) ?_
          intro W1 hW1
          have B1 := bel_in B0 hW1
          clear hW1 B0
          refine held_free 10 (.bool true) rfl (by kernel_rfl) (by kernel_rfl) (by kernel_rfl) (by kernel_rfl) B1 (fun W b => ex_aggeq 26 26 (.tmp 10) (.tmp 12) (by kernel_rfl) ((dsv (⟨fin, true, false, ack, hm, true, dsn, ssn, len, hs, sum⟩ : Ds))) ((dsv (Ds.bare (⟨fin, true, false, ack, hm, true, dsn, ssn, len, hs, sum⟩ : Ds)))) (by kernel_rfl) (by kernel_rfl) (by kernel_rfl) true (ds_equal_b _ _ true H0.out W)) ?_
          refine held_free 11 (.bool true) rfl (by kernel_rfl) (by kernel_rfl) (by kernel_rfl) (by kernel_rfl) B1 (fun _ _ => by kernel_rfl) ?_
          refine held_free 12 (.bool true) rfl (by kernel_rfl) (by kernel_rfl) (by kernel_rfl) (by kernel_rfl) B1 (fun _ _ => by kernel_rfl) ?_
          refine held_free 13 (.pointer (some ⟨b0, 2, none⟩)) rfl (by kernel_rfl) (by kernel_rfl) (by kernel_rfl) (by kernel_rfl) B1 (fun _ _ => ex_field (v := .pointer (some ⟨b0, 0, none⟩)) 26 (.tmp 1) 2 (by kernel_rfl) (by kernel_rfl) (by kernel_rfl)) ?_
          refine held_free 14 (.bool false) rfl (by kernel_rfl) (by kernel_rfl) (by kernel_rfl) (by kernel_rfl) B1 (fun W b => ex_load 4 (.tmp 16) (by kernel_rfl) ⟨b0, 2, none⟩ (by kernel_rfl) (by kernel_rfl) ((HX.out.below b HX.out.lt).cell 2)) ?_
          refine held_free 15 (.bool false) rfl (by kernel_rfl) (by kernel_rfl) (by kernel_rfl) (by kernel_rfl) B1 (fun _ _ => by kernel_rfl) ?_
          refine held_free 16 (.pointer (some ⟨b0, 3, none⟩)) rfl (by kernel_rfl) (by kernel_rfl) (by kernel_rfl) (by kernel_rfl) B1 (fun _ _ => ex_field (v := .pointer (some ⟨b0, 0, none⟩)) 26 (.tmp 1) 3 (by kernel_rfl) (by kernel_rfl) (by kernel_rfl)) ?_
          refine held_free 17 (.int .u64 (ack : Int)) rfl (by kernel_rfl) (by kernel_rfl) (by kernel_rfl) (by kernel_rfl) B1 (fun W b => ex_load 22 (.tmp 19) (by kernel_rfl) ⟨b0, 3, none⟩ (by kernel_rfl) (by kernel_rfl) ((HX.out.below b HX.out.lt).cell 3)) ?_
          refine held_free 18 (.bool true) rfl (by kernel_rfl) (by kernel_rfl) (by kernel_rfl) (by kernel_rfl) B1 (fun _ _ => ex_intltb .u64 22 22 (.tmp 20) (.const (.int .u64 4294967296)) (by kernel_rfl) ((ack : Int)) (4294967296) (by kernel_rfl) (by kernel_rfl) (by kernel_rfl) true (H1.out)) ?_
          refine held_free 19 (.bool true) rfl (by kernel_rfl) (by kernel_rfl) (by kernel_rfl) (by kernel_rfl) B1 (fun _ _ => by kernel_rfl) ?_
          refine held_free 20 (.bool true) rfl (by kernel_rfl) (by kernel_rfl) (by kernel_rfl) (by kernel_rfl) B1 (fun _ _ => by kernel_rfl) ?_
          refine held_free 21 (.bool true) rfl (by kernel_rfl) (by kernel_rfl) (by kernel_rfl) (by kernel_rfl) B1 (fun _ _ => by kernel_rfl) ?_
          refine held_free 22 (.pointer (some ⟨b0, 5, none⟩)) rfl (by kernel_rfl) (by kernel_rfl) (by kernel_rfl) (by kernel_rfl) B1 (fun _ _ => ex_field (v := .pointer (some ⟨b0, 0, none⟩)) 26 (.tmp 1) 5 (by kernel_rfl) (by kernel_rfl) (by kernel_rfl)) ?_
          refine held_free 23 (.bool true) rfl (by kernel_rfl) (by kernel_rfl) (by kernel_rfl) (by kernel_rfl) B1 (fun W b => ex_load 4 (.tmp 25) (by kernel_rfl) ⟨b0, 5, none⟩ (by kernel_rfl) (by kernel_rfl) ((HX.out.below b HX.out.lt).cell 5)) ?_
          refine held_free 24 (.bool true) rfl (by kernel_rfl) (by kernel_rfl) (by kernel_rfl) (by kernel_rfl) B1 (fun _ _ => by kernel_rfl) ?_
          refine held_pass 25 rfl (by kernel_rfl) (by kernel_rfl) (by kernel_rfl) (by kernel_rfl) B1 ?_
          refine held_pass 26 rfl (by kernel_rfl) (by kernel_rfl) (by kernel_rfl) (by kernel_rfl) B1 ?_
          refine held_pass 27 rfl (by kernel_rfl) (by kernel_rfl) (by kernel_rfl) (by kernel_rfl) B1 ?_
          refine held_free 28 (.bool true) rfl (by kernel_rfl) (by kernel_rfl) (by kernel_rfl) (by kernel_rfl) B1 (fun _ _ => by kernel_rfl) ?_
          refine held_free 29 (.bool true) rfl (by kernel_rfl) (by kernel_rfl) (by kernel_rfl) (by kernel_rfl) B1 (fun _ _ => by kernel_rfl) ?_
          refine held_free 30 (.bool true) rfl (by kernel_rfl) (by kernel_rfl) (by kernel_rfl) (by kernel_rfl) B1 (fun _ _ => by kernel_rfl) ?_
          refine held_free 31 (.pointer (some ⟨b0, 8, none⟩)) rfl (by kernel_rfl) (by kernel_rfl) (by kernel_rfl) (by kernel_rfl) B1 (fun _ _ => ex_field (v := .pointer (some ⟨b0, 0, none⟩)) 26 (.tmp 1) 8 (by kernel_rfl) (by kernel_rfl) (by kernel_rfl)) ?_
          refine held_free 32 (.int .i64 len) rfl (by kernel_rfl) (by kernel_rfl) (by kernel_rfl) (by kernel_rfl) B1 (fun W b => ex_load 3 (.tmp 34) (by kernel_rfl) ⟨b0, 8, none⟩ (by kernel_rfl) (by kernel_rfl) ((HX.out.below b HX.out.lt).cell 8)) ?_
          refine held_free 33 (.bool true) rfl (by kernel_rfl) (by kernel_rfl) (by kernel_rfl) (by kernel_rfl) B1 (fun _ _ => ex_intgeb .i64 3 3 (.tmp 35) (.const (.int .i64 0)) (by kernel_rfl) (len) (0) (by kernel_rfl) (by kernel_rfl) (by kernel_rfl) true (H3.out)) ?_
          refine held_free 34 (.bool true) rfl (by kernel_rfl) (by kernel_rfl) (by kernel_rfl) (by kernel_rfl) B1 (fun _ _ => by kernel_rfl) ?_
          refine held_free 35 (.bool true) rfl (by kernel_rfl) (by kernel_rfl) (by kernel_rfl) (by kernel_rfl) B1 (fun _ _ => by kernel_rfl) ?_
          refine held_free 36 (.pointer (some ⟨b0, 8, none⟩)) rfl (by kernel_rfl) (by kernel_rfl) (by kernel_rfl) (by kernel_rfl) B1 (fun _ _ => ex_field (v := .pointer (some ⟨b0, 0, none⟩)) 26 (.tmp 1) 8 (by kernel_rfl) (by kernel_rfl) (by kernel_rfl)) ?_
          refine held_free 37 (.int .i64 len) rfl (by kernel_rfl) (by kernel_rfl) (by kernel_rfl) (by kernel_rfl) B1 (fun W b => ex_load 3 (.tmp 39) (by kernel_rfl) ⟨b0, 8, none⟩ (by kernel_rfl) (by kernel_rfl) ((HX.out.below b HX.out.lt).cell 8)) ?_
          refine held_free 38 (.bool true) rfl (by kernel_rfl) (by kernel_rfl) (by kernel_rfl) (by kernel_rfl) B1 (fun _ _ => ex_intleb .i64 3 3 (.tmp 40) (.const (.int .i64 65535)) (by kernel_rfl) (len) (65535) (by kernel_rfl) (by kernel_rfl) (by kernel_rfl) true (H4.out)) ?_
          refine held_free 39 (.bool true) rfl (by kernel_rfl) (by kernel_rfl) (by kernel_rfl) (by kernel_rfl) B1 (fun _ _ => by kernel_rfl) ?_
          refine held_free 40 (.bool true) rfl (by kernel_rfl) (by kernel_rfl) (by kernel_rfl) (by kernel_rfl) B1 (fun _ _ => by kernel_rfl) ?_
          refine held_end (by kernel_rfl) ?_
          go_wp2_with fail
          rw [HMM.out]
          exact ret_slot 2 (.bool true) (by kernel_rfl) (by kernel_rfl) (by kernel_rfl) ⟨rfl, by have q := HBV.out.trans (B1.mono HBV.out.size); first | exact q | (rw [HB0.out]; exact q)⟩
        · have H0 := Lib.hid (show deq (⟨fin, true, false, ack, hm, true, dsn, ssn, len, hs, sum⟩ : Ds) (Ds.bare (⟨fin, true, false, ack, hm, true, dsn, ssn, len, hs, sum⟩ : Ds)) = true from (deq_iff _ _).2 hbare.symm)
          have H1 := Lib.hid (show decide ((ack : Int) < 4294967296) = true from decide_eq_true hack)
          have H3 := Lib.hid (show decide ((0 : Int) ≤ len) = true from decide_eq_true hlo)
          have H4 := Lib.hid (show decide (len ≤ 65535) = false from decide_eq_false hhi)
          have HX := Lib.hid hx0
          have HMM := Lib.hid (show M = false from hM.trans (decide_eq_false fun m => hhi m.2.2.2.2.2))
          have HB0 := Lib.hid hb0
          have HVE := Lib.hid hV
          clear hx0 hb0 hV hM
          go_enter Try.func23, Try.ntmps23
          go_upto_region 1 with fail
          rw [← HVE.out, ← HB0.out]
          clear HVE
          have B0 : Below V.heap.size V V.drew := (Below.refl _ V).drew
          refine held_start (fun W => Below V.heap.size V W) (by kernel_rfl) (n := 41) rfl ?_
          obtain ⟨W0, hW0⟩ : ∃ W0, W0 = V.drew := ⟨_, rfl⟩
          rw [← hW0] at B0 ⊢
          clear hW0
          refine held_free 0 (.pointer (some ⟨b0, 1, none⟩)) rfl (by kernel_rfl) (by kernel_rfl) (by kernel_rfl) (by kernel_rfl) B0 (fun _ _ => ex_field (v := .pointer (some ⟨b0, 0, none⟩)) 26 (.tmp 1) 1 (by kernel_rfl) (by kernel_rfl) (by kernel_rfl)) ?_
          refine held_free 1 (.bool true) rfl (by kernel_rfl) (by kernel_rfl) (by kernel_rfl) (by kernel_rfl) B0 (fun W b => ex_load 4 (.tmp 3) (by kernel_rfl) ⟨b0, 1, none⟩ (by kernel_rfl) (by kernel_rfl) ((HX.out.below b HX.out.lt).cell 1)) ?_
          refine held_free 2 (.bool true) rfl (by kernel_rfl) (by kernel_rfl) (by kernel_rfl) (by kernel_rfl) B0 (fun _ _ => by kernel_rfl) ?_
          refine held_pass 3 rfl (by kernel_rfl) (by kernel_rfl) (by kernel_rfl) (by kernel_rfl) B0 ?_
          refine held_pass 4 rfl (by kernel_rfl) (by kernel_rfl) (by kernel_rfl) (by kernel_rfl) B0 ?_
          refine held_free 5 (.bool true) rfl (by kernel_rfl) (by kernel_rfl) (by kernel_rfl) (by kernel_rfl) B0 (fun _ _ => by kernel_rfl) ?_
          refine held_free 6 (.bool true) rfl (by kernel_rfl) (by kernel_rfl) (by kernel_rfl) (by kernel_rfl) B0 (fun _ _ => by kernel_rfl) ?_
          refine held_free 7 (.agg (dsv (⟨fin, true, false, ack, hm, true, dsn, ssn, len, hs, sum⟩ : Ds))) rfl (by kernel_rfl) (by kernel_rfl) (by kernel_rfl) (by kernel_rfl) B0 (fun W b => exec_row_ 26 (.tmp 1) (by kernel_rfl) b0 (by kernel_rfl) 26 _ (0, 0) _ (HX.out.below b HX.out.lt) Try.underlying26 rfl ds_size) ?_
          refine held_free 8 (.agg (dsv (⟨fin, true, false, ack, hm, true, dsn, ssn, len, hs, sum⟩ : Ds))) rfl (by kernel_rfl) (by kernel_rfl) (by kernel_rfl) (by kernel_rfl) B0 (fun W b => exec_row_ 26 (.tmp 1) (by kernel_rfl) b0 (by kernel_rfl) 26 _ (0, 0) _ (HX.out.below b HX.out.lt) Try.underlying26 rfl ds_size) ?_
          refine held_call 9 rfl (by kernel_rfl) (by kernel_rfl) (by kernel_rfl) (bareR_any (⟨fin, true, false, ack, hm, true, dsn, ssn, len, hs, sum⟩ : Ds) _) (fun w' h => bel_in B0 h) ?_
          intro W1 hW1
          have B1 := bel_in B0 hW1
          clear hW1 B0
          refine held_free 10 (.bool true) rfl (by kernel_rfl) (by kernel_rfl) (by kernel_rfl) (by kernel_rfl) B1 (fun W b => ex_aggeq 26 26 (.tmp 10) (.tmp 12) (by kernel_rfl) ((dsv (⟨fin, true, false, ack, hm, true, dsn, ssn, len, hs, sum⟩ : Ds))) ((dsv (Ds.bare (⟨fin, true, false, ack, hm, true, dsn, ssn, len, hs, sum⟩ : Ds)))) (by kernel_rfl) (by kernel_rfl) (by kernel_rfl) true (ds_equal_b _ _ true H0.out W)) ?_
          refine held_free 11 (.bool true) rfl (by kernel_rfl) (by kernel_rfl) (by kernel_rfl) (by kernel_rfl) B1 (fun _ _ => by kernel_rfl) ?_
          refine held_free 12 (.bool true) rfl (by kernel_rfl) (by kernel_rfl) (by kernel_rfl) (by kernel_rfl) B1 (fun _ _ => by kernel_rfl) ?_
          refine held_free 13 (.pointer (some ⟨b0, 2, none⟩)) rfl (by kernel_rfl) (by kernel_rfl) (by kernel_rfl) (by kernel_rfl) B1 (fun _ _ => ex_field (v := .pointer (some ⟨b0, 0, none⟩)) 26 (.tmp 1) 2 (by kernel_rfl) (by kernel_rfl) (by kernel_rfl)) ?_
          refine held_free 14 (.bool false) rfl (by kernel_rfl) (by kernel_rfl) (by kernel_rfl) (by kernel_rfl) B1 (fun W b => ex_load 4 (.tmp 16) (by kernel_rfl) ⟨b0, 2, none⟩ (by kernel_rfl) (by kernel_rfl) ((HX.out.below b HX.out.lt).cell 2)) ?_
          refine held_free 15 (.bool false) rfl (by kernel_rfl) (by kernel_rfl) (by kernel_rfl) (by kernel_rfl) B1 (fun _ _ => by kernel_rfl) ?_
          refine held_free 16 (.pointer (some ⟨b0, 3, none⟩)) rfl (by kernel_rfl) (by kernel_rfl) (by kernel_rfl) (by kernel_rfl) B1 (fun _ _ => ex_field (v := .pointer (some ⟨b0, 0, none⟩)) 26 (.tmp 1) 3 (by kernel_rfl) (by kernel_rfl) (by kernel_rfl)) ?_
          refine held_free 17 (.int .u64 (ack : Int)) rfl (by kernel_rfl) (by kernel_rfl) (by kernel_rfl) (by kernel_rfl) B1 (fun W b => ex_load 22 (.tmp 19) (by kernel_rfl) ⟨b0, 3, none⟩ (by kernel_rfl) (by kernel_rfl) ((HX.out.below b HX.out.lt).cell 3)) ?_
          refine held_free 18 (.bool true) rfl (by kernel_rfl) (by kernel_rfl) (by kernel_rfl) (by kernel_rfl) B1 (fun _ _ => ex_intltb .u64 22 22 (.tmp 20) (.const (.int .u64 4294967296)) (by kernel_rfl) ((ack : Int)) (4294967296) (by kernel_rfl) (by kernel_rfl) (by kernel_rfl) true (H1.out)) ?_
          refine held_free 19 (.bool true) rfl (by kernel_rfl) (by kernel_rfl) (by kernel_rfl) (by kernel_rfl) B1 (fun _ _ => by kernel_rfl) ?_
          refine held_free 20 (.bool true) rfl (by kernel_rfl) (by kernel_rfl) (by kernel_rfl) (by kernel_rfl) B1 (fun _ _ => by kernel_rfl) ?_
          refine held_free 21 (.bool true) rfl (by kernel_rfl) (by kernel_rfl) (by kernel_rfl) (by kernel_rfl) B1 (fun _ _ => by kernel_rfl) ?_
          refine held_free 22 (.pointer (some ⟨b0, 5, none⟩)) rfl (by kernel_rfl) (by kernel_rfl) (by kernel_rfl) (by kernel_rfl) B1 (fun _ _ => ex_field (v := .pointer (some ⟨b0, 0, none⟩)) 26 (.tmp 1) 5 (by kernel_rfl) (by kernel_rfl) (by kernel_rfl)) ?_
          refine held_free 23 (.bool true) rfl (by kernel_rfl) (by kernel_rfl) (by kernel_rfl) (by kernel_rfl) B1 (fun W b => ex_load 4 (.tmp 25) (by kernel_rfl) ⟨b0, 5, none⟩ (by kernel_rfl) (by kernel_rfl) ((HX.out.below b HX.out.lt).cell 5)) ?_
          refine held_free 24 (.bool true) rfl (by kernel_rfl) (by kernel_rfl) (by kernel_rfl) (by kernel_rfl) B1 (fun _ _ => by kernel_rfl) ?_
          refine held_pass 25 rfl (by kernel_rfl) (by kernel_rfl) (by kernel_rfl) (by kernel_rfl) B1 ?_
          refine held_pass 26 rfl (by kernel_rfl) (by kernel_rfl) (by kernel_rfl) (by kernel_rfl) B1 ?_
          refine held_pass 27 rfl (by kernel_rfl) (by kernel_rfl) (by kernel_rfl) (by kernel_rfl) B1 ?_
          refine held_free 28 (.bool true) rfl (by kernel_rfl) (by kernel_rfl) (by kernel_rfl) (by kernel_rfl) B1 (fun _ _ => by kernel_rfl) ?_
          refine held_free 29 (.bool true) rfl (by kernel_rfl) (by kernel_rfl) (by kernel_rfl) (by kernel_rfl) B1 (fun _ _ => by kernel_rfl) ?_
          refine held_free 30 (.bool true) rfl (by kernel_rfl) (by kernel_rfl) (by kernel_rfl) (by kernel_rfl) B1 (fun _ _ => by kernel_rfl) ?_
          refine held_free 31 (.pointer (some ⟨b0, 8, none⟩)) rfl (by kernel_rfl) (by kernel_rfl) (by kernel_rfl) (by kernel_rfl) B1 (fun _ _ => ex_field (v := .pointer (some ⟨b0, 0, none⟩)) 26 (.tmp 1) 8 (by kernel_rfl) (by kernel_rfl) (by kernel_rfl)) ?_
          refine held_free 32 (.int .i64 len) rfl (by kernel_rfl) (by kernel_rfl) (by kernel_rfl) (by kernel_rfl) B1 (fun W b => ex_load 3 (.tmp 34) (by kernel_rfl) ⟨b0, 8, none⟩ (by kernel_rfl) (by kernel_rfl) ((HX.out.below b HX.out.lt).cell 8)) ?_
          refine held_free 33 (.bool true) rfl (by kernel_rfl) (by kernel_rfl) (by kernel_rfl) (by kernel_rfl) B1 (fun _ _ => ex_intgeb .i64 3 3 (.tmp 35) (.const (.int .i64 0)) (by kernel_rfl) (len) (0) (by kernel_rfl) (by kernel_rfl) (by kernel_rfl) true (H3.out)) ?_
          refine held_free 34 (.bool true) rfl (by kernel_rfl) (by kernel_rfl) (by kernel_rfl) (by kernel_rfl) B1 (fun _ _ => by kernel_rfl) ?_
          refine held_free 35 (.bool true) rfl (by kernel_rfl) (by kernel_rfl) (by kernel_rfl) (by kernel_rfl) B1 (fun _ _ => by kernel_rfl) ?_
          refine held_free 36 (.pointer (some ⟨b0, 8, none⟩)) rfl (by kernel_rfl) (by kernel_rfl) (by kernel_rfl) (by kernel_rfl) B1 (fun _ _ => ex_field (v := .pointer (some ⟨b0, 0, none⟩)) 26 (.tmp 1) 8 (by kernel_rfl) (by kernel_rfl) (by kernel_rfl)) ?_
          refine held_free 37 (.int .i64 len) rfl (by kernel_rfl) (by kernel_rfl) (by kernel_rfl) (by kernel_rfl) B1 (fun W b => ex_load 3 (.tmp 39) (by kernel_rfl) ⟨b0, 8, none⟩ (by kernel_rfl) (by kernel_rfl) ((HX.out.below b HX.out.lt).cell 8)) ?_
          refine held_free 38 (.bool false) rfl (by kernel_rfl) (by kernel_rfl) (by kernel_rfl) (by kernel_rfl) B1 (fun _ _ => ex_intleb .i64 3 3 (.tmp 40) (.const (.int .i64 65535)) (by kernel_rfl) (len) (65535) (by kernel_rfl) (by kernel_rfl) (by kernel_rfl) false (H4.out)) ?_
          refine held_free 39 (.bool false) rfl (by kernel_rfl) (by kernel_rfl) (by kernel_rfl) (by kernel_rfl) B1 (fun _ _ => by kernel_rfl) ?_
          refine held_free 40 (.bool false) rfl (by kernel_rfl) (by kernel_rfl) (by kernel_rfl) (by kernel_rfl) B1 (fun _ _ => by kernel_rfl) ?_
          refine held_end (by kernel_rfl) ?_
          go_wp2_with fail
          rw [HMM.out]
          exact ret_slot 2 (.bool false) (by kernel_rfl) (by kernel_rfl) (by kernel_rfl) ⟨rfl, by have q := HBV.out.trans (B1.mono HBV.out.size); first | exact q | (rw [HB0.out]; exact q)⟩
      · have H0 := Lib.hid (show deq (⟨fin, true, false, ack, hm, true, dsn, ssn, len, hs, sum⟩ : Ds) (Ds.bare (⟨fin, true, false, ack, hm, true, dsn, ssn, len, hs, sum⟩ : Ds)) = true from (deq_iff _ _).2 hbare.symm)
        have H1 := Lib.hid (show decide ((ack : Int) < 4294967296) = true from decide_eq_true hack)
        have H3 := Lib.hid (show decide ((0 : Int) ≤ len) = false from decide_eq_false hlo)
        have HX := Lib.hid hx0
        have HMM := Lib.hid (show M = false from hM.trans (decide_eq_false fun m => hlo m.2.2.2.2.1))
        have HB0 := Lib.hid hb0
        have HVE := Lib.hid hV
        clear hx0 hb0 hV hM
        go_enter Try.func23, Try.ntmps23
        go_upto_region 1 with fail
        rw [← HVE.out, ← HB0.out]
        clear HVE
        have B0 : Below V.heap.size V V.drew := (Below.refl _ V).drew
        refine held_start (fun W => Below V.heap.size V W) (by kernel_rfl) (n := 41) rfl ?_
        obtain ⟨W0, hW0⟩ : ∃ W0, W0 = V.drew := ⟨_, rfl⟩
        rw [← hW0] at B0 ⊢
        clear hW0
        refine held_free 0 (.pointer (some ⟨b0, 1, none⟩)) rfl (by kernel_rfl) (by kernel_rfl) (by kernel_rfl) (by kernel_rfl) B0 (fun _ _ => ex_field (v := .pointer (some ⟨b0, 0, none⟩)) 26 (.tmp 1) 1 (by kernel_rfl) (by kernel_rfl) (by kernel_rfl)) ?_
        refine held_free 1 (.bool true) rfl (by kernel_rfl) (by kernel_rfl) (by kernel_rfl) (by kernel_rfl) B0 (fun W b => ex_load 4 (.tmp 3) (by kernel_rfl) ⟨b0, 1, none⟩ (by kernel_rfl) (by kernel_rfl) ((HX.out.below b HX.out.lt).cell 1)) ?_
        refine held_free 2 (.bool true) rfl (by kernel_rfl) (by kernel_rfl) (by kernel_rfl) (by kernel_rfl) B0 (fun _ _ => by kernel_rfl) ?_
        refine held_pass 3 rfl (by kernel_rfl) (by kernel_rfl) (by kernel_rfl) (by kernel_rfl) B0 ?_
        refine held_pass 4 rfl (by kernel_rfl) (by kernel_rfl) (by kernel_rfl) (by kernel_rfl) B0 ?_
        refine held_free 5 (.bool true) rfl (by kernel_rfl) (by kernel_rfl) (by kernel_rfl) (by kernel_rfl) B0 (fun _ _ => by kernel_rfl) ?_
        refine held_free 6 (.bool true) rfl (by kernel_rfl) (by kernel_rfl) (by kernel_rfl) (by kernel_rfl) B0 (fun _ _ => by kernel_rfl) ?_
        refine held_free 7 (.agg (dsv (⟨fin, true, false, ack, hm, true, dsn, ssn, len, hs, sum⟩ : Ds))) rfl (by kernel_rfl) (by kernel_rfl) (by kernel_rfl) (by kernel_rfl) B0 (fun W b => exec_row_ 26 (.tmp 1) (by kernel_rfl) b0 (by kernel_rfl) 26 _ (0, 0) _ (HX.out.below b HX.out.lt) Try.underlying26 rfl ds_size) ?_
        refine held_free 8 (.agg (dsv (⟨fin, true, false, ack, hm, true, dsn, ssn, len, hs, sum⟩ : Ds))) rfl (by kernel_rfl) (by kernel_rfl) (by kernel_rfl) (by kernel_rfl) B0 (fun W b => exec_row_ 26 (.tmp 1) (by kernel_rfl) b0 (by kernel_rfl) 26 _ (0, 0) _ (HX.out.below b HX.out.lt) Try.underlying26 rfl ds_size) ?_
        refine held_call 9 rfl (by kernel_rfl) (by kernel_rfl) (by kernel_rfl) (bareR_any (⟨fin, true, false, ack, hm, true, dsn, ssn, len, hs, sum⟩ : Ds) _) (fun w' h => bel_in B0 h) ?_
        intro W1 hW1
        have B1 := bel_in B0 hW1
        clear hW1 B0
        refine held_free 10 (.bool true) rfl (by kernel_rfl) (by kernel_rfl) (by kernel_rfl) (by kernel_rfl) B1 (fun W b => ex_aggeq 26 26 (.tmp 10) (.tmp 12) (by kernel_rfl) ((dsv (⟨fin, true, false, ack, hm, true, dsn, ssn, len, hs, sum⟩ : Ds))) ((dsv (Ds.bare (⟨fin, true, false, ack, hm, true, dsn, ssn, len, hs, sum⟩ : Ds)))) (by kernel_rfl) (by kernel_rfl) (by kernel_rfl) true (ds_equal_b _ _ true H0.out W)) ?_
        refine held_free 11 (.bool true) rfl (by kernel_rfl) (by kernel_rfl) (by kernel_rfl) (by kernel_rfl) B1 (fun _ _ => by kernel_rfl) ?_
        refine held_free 12 (.bool true) rfl (by kernel_rfl) (by kernel_rfl) (by kernel_rfl) (by kernel_rfl) B1 (fun _ _ => by kernel_rfl) ?_
        refine held_free 13 (.pointer (some ⟨b0, 2, none⟩)) rfl (by kernel_rfl) (by kernel_rfl) (by kernel_rfl) (by kernel_rfl) B1 (fun _ _ => ex_field (v := .pointer (some ⟨b0, 0, none⟩)) 26 (.tmp 1) 2 (by kernel_rfl) (by kernel_rfl) (by kernel_rfl)) ?_
        refine held_free 14 (.bool false) rfl (by kernel_rfl) (by kernel_rfl) (by kernel_rfl) (by kernel_rfl) B1 (fun W b => ex_load 4 (.tmp 16) (by kernel_rfl) ⟨b0, 2, none⟩ (by kernel_rfl) (by kernel_rfl) ((HX.out.below b HX.out.lt).cell 2)) ?_
        refine held_free 15 (.bool false) rfl (by kernel_rfl) (by kernel_rfl) (by kernel_rfl) (by kernel_rfl) B1 (fun _ _ => by kernel_rfl) ?_
        refine held_free 16 (.pointer (some ⟨b0, 3, none⟩)) rfl (by kernel_rfl) (by kernel_rfl) (by kernel_rfl) (by kernel_rfl) B1 (fun _ _ => ex_field (v := .pointer (some ⟨b0, 0, none⟩)) 26 (.tmp 1) 3 (by kernel_rfl) (by kernel_rfl) (by kernel_rfl)) ?_
        refine held_free 17 (.int .u64 (ack : Int)) rfl (by kernel_rfl) (by kernel_rfl) (by kernel_rfl) (by kernel_rfl) B1 (fun W b => ex_load 22 (.tmp 19) (by kernel_rfl) ⟨b0, 3, none⟩ (by kernel_rfl) (by kernel_rfl) ((HX.out.below b HX.out.lt).cell 3)) ?_
        refine held_free 18 (.bool true) rfl (by kernel_rfl) (by kernel_rfl) (by kernel_rfl) (by kernel_rfl) B1 (fun _ _ => ex_intltb .u64 22 22 (.tmp 20) (.const (.int .u64 4294967296)) (by kernel_rfl) ((ack : Int)) (4294967296) (by kernel_rfl) (by kernel_rfl) (by kernel_rfl) true (H1.out)) ?_
        refine held_free 19 (.bool true) rfl (by kernel_rfl) (by kernel_rfl) (by kernel_rfl) (by kernel_rfl) B1 (fun _ _ => by kernel_rfl) ?_
        refine held_free 20 (.bool true) rfl (by kernel_rfl) (by kernel_rfl) (by kernel_rfl) (by kernel_rfl) B1 (fun _ _ => by kernel_rfl) ?_
        refine held_free 21 (.bool true) rfl (by kernel_rfl) (by kernel_rfl) (by kernel_rfl) (by kernel_rfl) B1 (fun _ _ => by kernel_rfl) ?_
        refine held_free 22 (.pointer (some ⟨b0, 5, none⟩)) rfl (by kernel_rfl) (by kernel_rfl) (by kernel_rfl) (by kernel_rfl) B1 (fun _ _ => ex_field (v := .pointer (some ⟨b0, 0, none⟩)) 26 (.tmp 1) 5 (by kernel_rfl) (by kernel_rfl) (by kernel_rfl)) ?_
        refine held_free 23 (.bool true) rfl (by kernel_rfl) (by kernel_rfl) (by kernel_rfl) (by kernel_rfl) B1 (fun W b => ex_load 4 (.tmp 25) (by kernel_rfl) ⟨b0, 5, none⟩ (by kernel_rfl) (by kernel_rfl) ((HX.out.below b HX.out.lt).cell 5)) ?_
        refine held_free 24 (.bool true) rfl (by kernel_rfl) (by kernel_rfl) (by kernel_rfl) (by kernel_rfl) B1 (fun _ _ => by kernel_rfl) ?_
        refine held_pass 25 rfl (by kernel_rfl) (by kernel_rfl) (by kernel_rfl) (by kernel_rfl) B1 ?_
        refine held_pass 26 rfl (by kernel_rfl) (by kernel_rfl) (by kernel_rfl) (by kernel_rfl) B1 ?_
        refine held_pass 27 rfl (by kernel_rfl) (by kernel_rfl) (by kernel_rfl) (by kernel_rfl) B1 ?_
        refine held_free 28 (.bool true) rfl (by kernel_rfl) (by kernel_rfl) (by kernel_rfl) (by kernel_rfl) B1 (fun _ _ => by kernel_rfl) ?_
        refine held_free 29 (.bool true) rfl (by kernel_rfl) (by kernel_rfl) (by kernel_rfl) (by kernel_rfl) B1 (fun _ _ => by kernel_rfl) ?_
        refine held_free 30 (.bool true) rfl (by kernel_rfl) (by kernel_rfl) (by kernel_rfl) (by kernel_rfl) B1 (fun _ _ => by kernel_rfl) ?_
        refine held_free 31 (.pointer (some ⟨b0, 8, none⟩)) rfl (by kernel_rfl) (by kernel_rfl) (by kernel_rfl) (by kernel_rfl) B1 (fun _ _ => ex_field (v := .pointer (some ⟨b0, 0, none⟩)) 26 (.tmp 1) 8 (by kernel_rfl) (by kernel_rfl) (by kernel_rfl)) ?_
        refine held_free 32 (.int .i64 len) rfl (by kernel_rfl) (by kernel_rfl) (by kernel_rfl) (by kernel_rfl) B1 (fun W b => ex_load 3 (.tmp 34) (by kernel_rfl) ⟨b0, 8, none⟩ (by kernel_rfl) (by kernel_rfl) ((HX.out.below b HX.out.lt).cell 8)) ?_
        refine held_free 33 (.bool false) rfl (by kernel_rfl) (by kernel_rfl) (by kernel_rfl) (by kernel_rfl) B1 (fun _ _ => ex_intgeb .i64 3 3 (.tmp 35) (.const (.int .i64 0)) (by kernel_rfl) (len) (0) (by kernel_rfl) (by kernel_rfl) (by kernel_rfl) false (H3.out)) ?_
        refine held_free 34 (.bool false) rfl (by kernel_rfl) (by kernel_rfl) (by kernel_rfl) (by kernel_rfl) B1 (fun _ _ => by kernel_rfl) ?_
        refine held_free 35 (.bool false) rfl (by kernel_rfl) (by kernel_rfl) (by kernel_rfl) (by kernel_rfl) B1 (fun _ _ => by kernel_rfl) ?_
        refine held_pass 36 rfl (by kernel_rfl) (by kernel_rfl) (by kernel_rfl) (by kernel_rfl) B1 ?_
        refine held_pass 37 rfl (by kernel_rfl) (by kernel_rfl) (by kernel_rfl) (by kernel_rfl) B1 ?_
        refine held_pass 38 rfl (by kernel_rfl) (by kernel_rfl) (by kernel_rfl) (by kernel_rfl) B1 ?_
        refine held_free 39 (.bool false) rfl (by kernel_rfl) (by kernel_rfl) (by kernel_rfl) (by kernel_rfl) B1 (fun _ _ => by kernel_rfl) ?_
        refine held_free 40 (.bool false) rfl (by kernel_rfl) (by kernel_rfl) (by kernel_rfl) (by kernel_rfl) B1 (fun _ _ => by kernel_rfl) ?_
        refine held_end (by kernel_rfl) ?_
        go_wp2_with fail
        rw [HMM.out]
        exact ret_slot 2 (.bool false) (by kernel_rfl) (by kernel_rfl) (by kernel_rfl) ⟨rfl, by have q := HBV.out.trans (B1.mono HBV.out.size); first | exact q | (rw [HB0.out]; exact q)⟩
    · have H0 := Lib.hid (show deq (⟨fin, true, false, ack, hm, true, dsn, ssn, len, hs, sum⟩ : Ds) (Ds.bare (⟨fin, true, false, ack, hm, true, dsn, ssn, len, hs, sum⟩ : Ds)) = true from (deq_iff _ _).2 hbare.symm)
      have H1 := Lib.hid (show decide ((ack : Int) < 4294967296) = false from decide_eq_false hack)
      have HX := Lib.hid hx0
      have HMM := Lib.hid (show M = false from hM.trans (decide_eq_false fun m => hack (by have q := m.2.2.1; simp at q; omega)))
      have HB0 := Lib.hid hb0
      have HVE := Lib.hid hV
      clear hx0 hb0 hV hM
      go_enter Try.func23, Try.ntmps23
      go_upto_region 1 with fail
      rw [← HVE.out, ← HB0.out]
      clear HVE
      have B0 : Below V.heap.size V V.drew := (Below.refl _ V).drew
      refine held_start (fun W => Below V.heap.size V W) (by kernel_rfl) (n := 41) rfl ?_
      obtain ⟨W0, hW0⟩ : ∃ W0, W0 = V.drew := ⟨_, rfl⟩
      rw [← hW0] at B0 ⊢
      clear hW0
      refine held_free 0 (.pointer (some ⟨b0, 1, none⟩)) rfl (by kernel_rfl) (by kernel_rfl) (by kernel_rfl) (by kernel_rfl) B0 (fun _ _ => ex_field (v := .pointer (some ⟨b0, 0, none⟩)) 26 (.tmp 1) 1 (by kernel_rfl) (by kernel_rfl) (by kernel_rfl)) ?_
      refine held_free 1 (.bool true) rfl (by kernel_rfl) (by kernel_rfl) (by kernel_rfl) (by kernel_rfl) B0 (fun W b => ex_load 4 (.tmp 3) (by kernel_rfl) ⟨b0, 1, none⟩ (by kernel_rfl) (by kernel_rfl) ((HX.out.below b HX.out.lt).cell 1)) ?_
      refine held_free 2 (.bool true) rfl (by kernel_rfl) (by kernel_rfl) (by kernel_rfl) (by kernel_rfl) B0 (fun _ _ => by kernel_rfl) ?_
      refine held_pass 3 rfl (by kernel_rfl) (by kernel_rfl) (by kernel_rfl) (by kernel_rfl) B0 ?_
      refine held_pass 4 rfl (by kernel_rfl) (by kernel_rfl) (by kernel_rfl) (by kernel_rfl) B0 ?_
      refine held_free 5 (.bool true) rfl (by kernel_rfl) (by kernel_rfl) (by kernel_rfl) (by kernel_rfl) B0 (fun _ _ => by kernel_rfl) ?_
      refine held_free 6 (.bool true) rfl (by kernel_rfl) (by kernel_rfl) (by kernel_rfl) (by kernel_rfl) B0 (fun _ _ => by kernel_rfl) ?_
      refine held_free 7 (.agg (dsv (⟨fin, true, false, ack, hm, true, dsn, ssn, len, hs, sum⟩ : Ds))) rfl (by kernel_rfl) (by kernel_rfl) (by kernel_rfl) (by kernel_rfl) B0 (fun W b => exec_row_ 26 (.tmp 1) (by kernel_rfl) b0 (by kernel_rfl) 26 _ (0, 0) _ (HX.out.below b HX.out.lt) Try.underlying26 rfl ds_size) ?_
      refine held_free 8 (.agg (dsv (⟨fin, true, false, ack, hm, true, dsn, ssn, len, hs, sum⟩ : Ds))) rfl (by kernel_rfl) (by kernel_rfl) (by kernel_rfl) (by kernel_rfl) B0 (fun W b => exec_row_ 26 (.tmp 1) (by kernel_rfl) b0 (by kernel_rfl) 26 _ (0, 0) _ (HX.out.below b HX.out.lt) Try.underlying26 rfl ds_size) ?_
      refine held_call 9 rfl (by kernel_rfl) (by kernel_rfl) (by kernel_rfl) (bareR_any (⟨fin, true, false, ack, hm, true, dsn, ssn, len, hs, sum⟩ : Ds) _) (fun w' h => bel_in B0 h) ?_
      intro W1 hW1
      have B1 := bel_in B0 hW1
      clear hW1 B0
      refine held_free 10 (.bool true) rfl (by kernel_rfl) (by kernel_rfl) (by kernel_rfl) (by kernel_rfl) B1 (fun W b => ex_aggeq 26 26 (.tmp 10) (.tmp 12) (by kernel_rfl) ((dsv (⟨fin, true, false, ack, hm, true, dsn, ssn, len, hs, sum⟩ : Ds))) ((dsv (Ds.bare (⟨fin, true, false, ack, hm, true, dsn, ssn, len, hs, sum⟩ : Ds)))) (by kernel_rfl) (by kernel_rfl) (by kernel_rfl) true (ds_equal_b _ _ true H0.out W)) ?_
      refine held_free 11 (.bool true) rfl (by kernel_rfl) (by kernel_rfl) (by kernel_rfl) (by kernel_rfl) B1 (fun _ _ => by kernel_rfl) ?_
      refine held_free 12 (.bool true) rfl (by kernel_rfl) (by kernel_rfl) (by kernel_rfl) (by kernel_rfl) B1 (fun _ _ => by kernel_rfl) ?_
      refine held_free 13 (.pointer (some ⟨b0, 2, none⟩)) rfl (by kernel_rfl) (by kernel_rfl) (by kernel_rfl) (by kernel_rfl) B1 (fun _ _ => ex_field (v := .pointer (some ⟨b0, 0, none⟩)) 26 (.tmp 1) 2 (by kernel_rfl) (by kernel_rfl) (by kernel_rfl)) ?_
      refine held_free 14 (.bool false) rfl (by kernel_rfl) (by kernel_rfl) (by kernel_rfl) (by kernel_rfl) B1 (fun W b => ex_load 4 (.tmp 16) (by kernel_rfl) ⟨b0, 2, none⟩ (by kernel_rfl) (by kernel_rfl) ((HX.out.below b HX.out.lt).cell 2)) ?_
      refine held_free 15 (.bool false) rfl (by kernel_rfl) (by kernel_rfl) (by kernel_rfl) (by kernel_rfl) B1 (fun _ _ => by kernel_rfl) ?_
      refine held_free 16 (.pointer (some ⟨b0, 3, none⟩)) rfl (by kernel_rfl) (by kernel_rfl) (by kernel_rfl) (by kernel_rfl) B1 (fun _ _ => ex_field (v := .pointer (some ⟨b0, 0, none⟩)) 26 (.tmp 1) 3 (by kernel_rfl) (by kernel_rfl) (by kernel_rfl)) ?_
      refine held_free 17 (.int .u64 (ack : Int)) rfl (by kernel_rfl) (by kernel_rfl) (by kernel_rfl) (by kernel_rfl) B1 (fun W b => ex_load 22 (.tmp 19) (by kernel_rfl) ⟨b0, 3, none⟩ (by kernel_rfl) (by kernel_rfl) ((HX.out.below b HX.out.lt).cell 3)) ?_
      refine held_free 18 (.bool false) rfl (by kernel_rfl) (by kernel_rfl) (by kernel_rfl) (by kernel_rfl) B1 (fun _ _ => ex_intltb .u64 22 22 (.tmp 20) (.const (.int .u64 4294967296)) (by kernel_rfl) ((ack : Int)) (4294967296) (by kernel_rfl) (by kernel_rfl) (by kernel_rfl) false (H1.out)) ?_
      refine held_free 19 (.bool false) rfl (by kernel_rfl) (by kernel_rfl) (by kernel_rfl) (by kernel_rfl) B1 (fun _ _ => by kernel_rfl) ?_
      refine held_free 20 (.bool false) rfl (by kernel_rfl) (by kernel_rfl) (by kernel_rfl) (by kernel_rfl) B1 (fun _ _ => by kernel_rfl) ?_
      refine held_free 21 (.bool false) rfl (by kernel_rfl) (by kernel_rfl) (by kernel_rfl) (by kernel_rfl) B1 (fun _ _ => by kernel_rfl) ?_
      refine held_pass 22 rfl (by kernel_rfl) (by kernel_rfl) (by kernel_rfl) (by kernel_rfl) B1 ?_
      refine held_pass 23 rfl (by kernel_rfl) (by kernel_rfl) (by kernel_rfl) (by kernel_rfl) B1 ?_
      refine held_pass 24 rfl (by kernel_rfl) (by kernel_rfl) (by kernel_rfl) (by kernel_rfl) B1 ?_
      refine held_pass 25 rfl (by kernel_rfl) (by kernel_rfl) (by kernel_rfl) (by kernel_rfl) B1 ?_
      refine held_pass 26 rfl (by kernel_rfl) (by kernel_rfl) (by kernel_rfl) (by kernel_rfl) B1 ?_
      refine held_pass 27 rfl (by kernel_rfl) (by kernel_rfl) (by kernel_rfl) (by kernel_rfl) B1 ?_
      refine held_pass 28 rfl (by kernel_rfl) (by kernel_rfl) (by kernel_rfl) (by kernel_rfl) B1 ?_
      refine held_free 29 (.bool false) rfl (by kernel_rfl) (by kernel_rfl) (by kernel_rfl) (by kernel_rfl) B1 (fun _ _ => by kernel_rfl) ?_
      refine held_free 30 (.bool false) rfl (by kernel_rfl) (by kernel_rfl) (by kernel_rfl) (by kernel_rfl) B1 (fun _ _ => by kernel_rfl) ?_
      refine held_pass 31 rfl (by kernel_rfl) (by kernel_rfl) (by kernel_rfl) (by kernel_rfl) B1 ?_
      refine held_pass 32 rfl (by kernel_rfl) (by kernel_rfl) (by kernel_rfl) (by kernel_rfl) B1 ?_
      refine held_pass 33 rfl (by kernel_rfl) (by kernel_rfl) (by kernel_rfl) (by kernel_rfl) B1 ?_
      refine held_free 34 (.bool false) rfl (by kernel_rfl) (by kernel_rfl) (by kernel_rfl) (by kernel_rfl) B1 (fun _ _ => by kernel_rfl) ?_
      refine held_free 35 (.bool false) rfl (by kernel_rfl) (by kernel_rfl) (by kernel_rfl) (by kernel_rfl) B1 (fun _ _ => by kernel_rfl) ?_
      refine held_pass 36 rfl (by kernel_rfl) (by kernel_rfl) (by kernel_rfl) (by kernel_rfl) B1 ?_
      refine held_pass 37 rfl (by kernel_rfl) (by kernel_rfl) (by kernel_rfl) (by kernel_rfl) B1 ?_
      refine held_pass 38 rfl (by kernel_rfl) (by kernel_rfl) (by kernel_rfl) (by kernel_rfl) B1 ?_
      refine held_free 39 (.bool false) rfl (by kernel_rfl) (by kernel_rfl) (by kernel_rfl) (by kernel_rfl) B1 (fun _ _ => by kernel_rfl) ?_
      refine held_free 40 (.bool false) rfl (by kernel_rfl) (by kernel_rfl) (by kernel_rfl) (by kernel_rfl) B1 (fun _ _ => by kernel_rfl) ?_
      refine held_end (by kernel_rfl) ?_
      go_wp2_with fail
      rw [HMM.out]
      exact ret_slot 2 (.bool false) (by kernel_rfl) (by kernel_rfl) (by kernel_rfl) ⟨rfl, by have q := HBV.out.trans (B1.mono HBV.out.size); first | exact q | (rw [HB0.out]; exact q)⟩
  · have H0 := Lib.hid (show deq (⟨fin, true, false, ack, hm, true, dsn, ssn, len, hs, sum⟩ : Ds) (Ds.bare (⟨fin, true, false, ack, hm, true, dsn, ssn, len, hs, sum⟩ : Ds)) = false from deq_ne fun q => hbare q.symm)
    have HX := Lib.hid hx0
    have HMM := Lib.hid (show M = false from hM.trans (decide_eq_false fun m => hbare ((Ds.bare_iff _).2 m.2.1)))
    have HB0 := Lib.hid hb0
    have HVE := Lib.hid hV
    clear hx0 hb0 hV hM
    go_enter Try.func23, Try.ntmps23
    go_upto_region 1 with fail
    rw [← HVE.out, ← HB0.out]
    clear HVE
    have B0 : Below V.heap.size V V.drew := (Below.refl _ V).drew
    refine held_start (fun W => Below V.heap.size V W) (by kernel_rfl) (n := 41) rfl ?_
    obtain ⟨W0, hW0⟩ : ∃ W0, W0 = V.drew := ⟨_, rfl⟩
    rw [← hW0] at B0 ⊢
    clear hW0
    refine held_free 0 (.pointer (some ⟨b0, 1, none⟩)) rfl (by kernel_rfl) (by kernel_rfl) (by kernel_rfl) (by kernel_rfl) B0 (fun _ _ => ex_field (v := .pointer (some ⟨b0, 0, none⟩)) 26 (.tmp 1) 1 (by kernel_rfl) (by kernel_rfl) (by kernel_rfl)) ?_
    refine held_free 1 (.bool true) rfl (by kernel_rfl) (by kernel_rfl) (by kernel_rfl) (by kernel_rfl) B0 (fun W b => ex_load 4 (.tmp 3) (by kernel_rfl) ⟨b0, 1, none⟩ (by kernel_rfl) (by kernel_rfl) ((HX.out.below b HX.out.lt).cell 1)) ?_
    refine held_free 2 (.bool true) rfl (by kernel_rfl) (by kernel_rfl) (by kernel_rfl) (by kernel_rfl) B0 (fun _ _ => by kernel_rfl) ?_
    refine held_pass 3 rfl (by kernel_rfl) (by kernel_rfl) (by kernel_rfl) (by kernel_rfl) B0 ?_
    refine held_pass 4 rfl (by kernel_rfl) (by kernel_rfl) (by kernel_rfl) (by kernel_rfl) B0 ?_
    refine held_free 5 (.bool true) rfl (by kernel_rfl) (by kernel_rfl) (by kernel_rfl) (by kernel_rfl) B0 (fun _ _ => by kernel_rfl) ?_
    refine held_free 6 (.bool true) rfl (by kernel_rfl) (by kernel_rfl) (by kernel_rfl) (by kernel_rfl) B0 (fun _ _ => by kernel_rfl) ?_
    refine held_free 7 (.agg (dsv (⟨fin, true, false, ack, hm, true, dsn, ssn, len, hs, sum⟩ : Ds))) rfl (by kernel_rfl) (by kernel_rfl) (by kernel_rfl) (by kernel_rfl) B0 (fun W b => exec_row_ 26 (.tmp 1) (by kernel_rfl) b0 (by kernel_rfl) 26 _ (0, 0) _ (HX.out.below b HX.out.lt) Try.underlying26 rfl ds_size) ?_
    refine held_free 8 (.agg (dsv (⟨fin, true, false, ack, hm, true, dsn, ssn, len, hs, sum⟩ : Ds))) rfl (by kernel_rfl) (by kernel_rfl) (by kernel_rfl) (by kernel_rfl) B0 (fun W b => exec_row_ 26 (.tmp 1) (by kernel_rfl) b0 (by kernel_rfl) 26 _ (0, 0) _ (HX.out.below b HX.out.lt) Try.underlying26 rfl ds_size) ?_
    refine held_call 9 rfl (by kernel_rfl) (by kernel_rfl) (by kernel_rfl) (bareR_any (⟨fin, true, false, ack, hm, true, dsn, ssn, len, hs, sum⟩ : Ds) _) (fun w' h => bel_in B0 h) ?_
    intro W1 hW1
    have B1 := bel_in B0 hW1
    clear hW1 B0
    refine held_free 10 (.bool false) rfl (by kernel_rfl) (by kernel_rfl) (by kernel_rfl) (by kernel_rfl) B1 (fun W b => ex_aggeq 26 26 (.tmp 10) (.tmp 12) (by kernel_rfl) ((dsv (⟨fin, true, false, ack, hm, true, dsn, ssn, len, hs, sum⟩ : Ds))) ((dsv (Ds.bare (⟨fin, true, false, ack, hm, true, dsn, ssn, len, hs, sum⟩ : Ds)))) (by kernel_rfl) (by kernel_rfl) (by kernel_rfl) false (ds_equal_b _ _ false H0.out W)) ?_
    refine held_free 11 (.bool false) rfl (by kernel_rfl) (by kernel_rfl) (by kernel_rfl) (by kernel_rfl) B1 (fun _ _ => by kernel_rfl) ?_
    refine held_free 12 (.bool false) rfl (by kernel_rfl) (by kernel_rfl) (by kernel_rfl) (by kernel_rfl) B1 (fun _ _ => by kernel_rfl) ?_
    refine held_pass 13 rfl (by kernel_rfl) (by kernel_rfl) (by kernel_rfl) (by kernel_rfl) B1 ?_
    refine held_pass 14 rfl (by kernel_rfl) (by kernel_rfl) (by kernel_rfl) (by kernel_rfl) B1 ?_
    refine held_pass 15 rfl (by kernel_rfl) (by kernel_rfl) (by kernel_rfl) (by kernel_rfl) B1 ?_
    refine held_pass 16 rfl (by kernel_rfl) (by kernel_rfl) (by kernel_rfl) (by kernel_rfl) B1 ?_
    refine held_pass 17 rfl (by kernel_rfl) (by kernel_rfl) (by kernel_rfl) (by kernel_rfl) B1 ?_
    refine held_pass 18 rfl (by kernel_rfl) (by kernel_rfl) (by kernel_rfl) (by kernel_rfl) B1 ?_
    refine held_pass 19 rfl (by kernel_rfl) (by kernel_rfl) (by kernel_rfl) (by kernel_rfl) B1 ?_
    refine held_free 20 (.bool false) rfl (by kernel_rfl) (by kernel_rfl) (by kernel_rfl) (by kernel_rfl) B1 (fun _ _ => by kernel_rfl) ?_
    refine held_free 21 (.bool false) rfl (by kernel_rfl) (by kernel_rfl) (by kernel_rfl) (by kernel_rfl) B1 (fun _ _ => by kernel_rfl) ?_
    refine held_pass 22 rfl (by kernel_rfl) (by kernel_rfl) (by kernel_rfl) (by kernel_rfl) B1 ?_
    refine held_pass 23 rfl (by kernel_rfl) (by kernel_rfl) (by kernel_rfl) (by kernel_rfl) B1 ?_
    refine held_pass 24 rfl (by kernel_rfl) (by kernel_rfl) (by kernel_rfl) (by kernel_rfl) B1 ?_
    refine held_pass 25 rfl (by kernel_rfl) (by kernel_rfl) (by kernel_rfl) (by kernel_rfl) B1 ?_
    refine held_pass 26 rfl (by kernel_rfl) (by kernel_rfl) (by kernel_rfl) (by kernel_rfl) B1 ?_
    refine held_pass 27 rfl (by kernel_rfl) (by kernel_rfl) (by kernel_rfl) (by kernel_rfl) B1 ?_
    refine held_pass 28 rfl (by kernel_rfl) (by kernel_rfl) (by kernel_rfl) (by kernel_rfl) B1 ?_
    refine held_free 29 (.bool false) rfl (by kernel_rfl) (by kernel_rfl) (by kernel_rfl) (by kernel_rfl) B1 (fun _ _ => by kernel_rfl) ?_
    refine held_free 30 (.bool false) rfl (by kernel_rfl) (by kernel_rfl) (by kernel_rfl) (by kernel_rfl) B1 (fun _ _ => by kernel_rfl) ?_
    refine held_pass 31 rfl (by kernel_rfl) (by kernel_rfl) (by kernel_rfl) (by kernel_rfl) B1 ?_
    refine held_pass 32 rfl (by kernel_rfl) (by kernel_rfl) (by kernel_rfl) (by kernel_rfl) B1 ?_
    refine held_pass 33 rfl (by kernel_rfl) (by kernel_rfl) (by kernel_rfl) (by kernel_rfl) B1 ?_
    refine held_free 34 (.bool false) rfl (by kernel_rfl) (by kernel_rfl) (by kernel_rfl) (by kernel_rfl) B1 (fun _ _ => by kernel_rfl) ?_
    refine held_free 35 (.bool false) rfl (by kernel_rfl) (by kernel_rfl) (by kernel_rfl) (by kernel_rfl) B1 (fun _ _ => by kernel_rfl) ?_
    refine held_pass 36 rfl (by kernel_rfl) (by kernel_rfl) (by kernel_rfl) (by kernel_rfl) B1 ?_
    refine held_pass 37 rfl (by kernel_rfl) (by kernel_rfl) (by kernel_rfl) (by kernel_rfl) B1 ?_
    refine held_pass 38 rfl (by kernel_rfl) (by kernel_rfl) (by kernel_rfl) (by kernel_rfl) B1 ?_
    refine held_free 39 (.bool false) rfl (by kernel_rfl) (by kernel_rfl) (by kernel_rfl) (by kernel_rfl) B1 (fun _ _ => by kernel_rfl) ?_
    refine held_free 40 (.bool false) rfl (by kernel_rfl) (by kernel_rfl) (by kernel_rfl) (by kernel_rfl) B1 (fun _ _ => by kernel_rfl) ?_
    refine held_end (by kernel_rfl) ?_
    go_wp2_with fail
    rw [HMM.out]
    exact ret_slot 2 (.bool false) (by kernel_rfl) (by kernel_rfl) (by kernel_rfl) ⟨rfl, by have q := HBV.out.trans (B1.mono HBV.out.size); first | exact q | (rw [HB0.out]; exact q)⟩
set_option maxHeartbeats 1000000 in
set_option maxRecDepth 100000 in
theorem mayR_ack_true_false (fin : Bool) (ack : Nat) (hm : Bool) (dsn : Nat) (ssn : Nat) (len : Int) (hs : Bool) (sum : Nat) (w : World) :
    Calls Try.prog 23 #[.agg (dsv (⟨fin, true, true, ack, hm, false, dsn, ssn, len, hs, sum⟩ : Ds))] w fun e w' => e = .returned (.bool (decide (Ds.May (⟨fin, true, true, ack, hm, false, dsn, ssn, len, hs, sum⟩ : Ds)))) ∧ Below w.heap.size w w' := by
  obtain ⟨V, hV⟩ : ∃ V, V = w.alloc (.cells (dsv (⟨fin, true, true, ack, hm, false, dsn, ssn, len, hs, sum⟩ : Ds)) 26) := ⟨_, rfl⟩
  obtain ⟨b0, hb0⟩ : ∃ b0, b0 = w.heap.size := ⟨_, rfl⟩
  obtain ⟨M, hM⟩ : ∃ M, M = decide (Ds.May (⟨fin, true, true, ack, hm, false, dsn, ssn, len, hs, sum⟩ : Ds)) := ⟨_, rfl⟩
  rw [← hM]
  have HBV := Lib.hid (show Below w.heap.size w V by rw [hV]; exact (Below.refl _ w).alloc (Nat.le_refl _) _)
  have hx0 : Blk V b0 26 (dsv (⟨fin, true, true, ack, hm, false, dsn, ssn, len, hs, sum⟩ : Ds)) := by rw [hV, hb0]; exact Blk.new _ _ _
  by_cases hbare : Ds.bare (⟨fin, true, true, ack, hm, false, dsn, ssn, len, hs, sum⟩ : Ds) = (⟨fin, true, true, ack, hm, false, dsn, ssn, len, hs, sum⟩ : Ds)
  · by_cases hdsn : (dsn : Int) < 4294967296
    · by_cases hlo : 0 ≤ len
      · by_cases hhi : len ≤ 65535
        · have H0 := Lib.hid (show deq (⟨fin, true, true, ack, hm, false, dsn, ssn, len, hs, sum⟩ : Ds) (Ds.bare (⟨fin, true, true, ack, hm, false, dsn, ssn, len, hs, sum⟩ : Ds)) = true from (deq_iff _ _).2 hbare.symm)
          have H2 := Lib.hid (show decide ((dsn : Int) < 4294967296) = true from decide_eq_true hdsn)
          have H3 := Lib.hid (show decide ((0 : Int) ≤ len) = true from decide_eq_true hlo)
          have H4 := Lib.hid (show decide (len ≤ 65535) = true from decide_eq_true hhi)
          have HX := Lib.hid hx0
          have HMM := Lib.hid (show M = true from hM.trans (decide_eq_true ⟨.inl rfl, (Ds.bare_iff _).1 hbare, .inl rfl, .inr (by simp only []; omega), hlo, hhi⟩))
          have HB0 := Lib.hid hb0
          have HVE := Lib.hid hV
          clear hx0 hb0 hV hM
          go_enter Try.func23, Try.ntmps23
          go_upto_region 1 with fail
          rw [← HVE.out, ← HB0.out]
          clear HVE
          have B0 : Below V.heap.size V V.drew := (Below.refl _ V).drew
          refine held_start (fun W => Below V.heap.size V W) (by kernel_rfl) (n := 41) rfl ?_
          obtain ⟨W0, hW0⟩ : ∃ W0, W0 = V.drew := ⟨_, rfl⟩
          rw [← hW0] at B0 ⊢
          clear hW0
          refine held_free 0 (.pointer (some ⟨b0, 1, none⟩)) rfl (by kernel_rfl) (by kernel_rfl) (by kernel_rfl) (by kernel_rfl) B0 (fun _ _ => ex_field (v := .pointer (some ⟨b0, 0, none⟩)) 26 (.tmp 1) 1 (by kernel_rfl) (by kernel_rfl) (by kernel_rfl)) ?_
          refine held_free 1 (.bool true) rfl (by kernel_rfl) (by kernel_rfl) (by kernel_rfl) (by kernel_rfl) B0 (fun W b => ex_load 4 (.tmp 3) (by kernel_rfl) ⟨b0, 1, none⟩ (by kernel_rfl) (by kernel_rfl) ((HX.out.below b HX.out.lt).cell 1)) ?_
          refine held_free 2 (.bool true) rfl (by kernel_rfl) (by kernel_rfl) (by kernel_rfl) (by kernel_rfl) B0 (fun _ _ => by kernel_rfl) ?_
          refine held_pass 3 rfl (by kernel_rfl) (by kernel_rfl) (by kernel_rfl) (by kernel_rfl) B0 ?_
          refine held_pass 4 rfl (by kernel_rfl) (by kernel_rfl) (by kernel_rfl) (by kernel_rfl) B0 ?_
          refine held_free 5 (.bool true) rfl (by kernel_rfl) (by kernel_rfl) (by kernel_rfl) (by kernel_rfl) B0 (fun _ _ => by kernel_rfl) ?_
          refine held_free 6 (.bool true) rfl (by kernel_rfl) (by kernel_rfl) (by kernel_rfl) (by kernel_rfl) B0 (fun _ _ => by kernel_rfl) ?_
          refine held_free 7 (.agg (dsv (⟨fin, true, true, ack, hm, false, dsn, ssn, len, hs, sum⟩ : Ds))) rfl (by kernel_rfl) (by kernel_rfl) (by kernel_rfl) (by kernel_rfl) B0 (fun W b => exec_row_ 26 (.tmp 1) (by kernel_rfl) b0 (by kernel_rfl) 26 _ (0, 0) _ (HX.out.below b HX.out.lt) Try.underlying26 rfl ds_size) ?_
          refine held_free 8 (.agg (dsv (⟨fin, true, true, ack, hm, false, dsn, ssn, len, hs, sum⟩ : Ds))) rfl (by kernel_rfl) (by kernel_rfl) (by kernel_rfl) (by kernel_rfl) B0 (fun W b => exec_row_ 26 (.tmp 1) (by kernel_rfl) b0 (by kernel_rfl) 26 _ (0, 0) _ (HX.out.below b HX.out.lt) Try.underlying26 rfl ds_size) ?_
          refine held_call 9 rfl (by kernel_rfl) (by kernel_rfl) (by kernel_rfl) (bareR_any (⟨fin, true, true, ack, hm, false, dsn, ssn, len, hs, sum⟩ : Ds) _) (fun w' h => bel_in B0 h) ?_
          intro W1 hW1
          have B1 := bel_in B0 hW1
          clear hW1 B0
          refine held_free 10 (.bool true) rfl (by kernel_rfl) (by kernel_rfl) (by kernel_rfl) (by kernel_rfl) B1 (fun W b => ex_aggeq 26 26 (.tmp 10) (.tmp 12) (by kernel_rfl) ((dsv (⟨fin, true, true, ack, hm, false, dsn, ssn, len, hs, sum⟩ : Ds))) ((dsv (Ds.bare (⟨fin, true, true, ack, hm, false, dsn, ssn, len, hs, sum⟩ : Ds)))) (by kernel_rfl) (by kernel_rfl) (by kernel_rfl) true (ds_equal_b _ _ true H0.out W)) ?_
          refine held_free 11 (.bool true) rfl (by kernel_rfl) (by kernel_rfl) (by kernel_rfl) (by kernel_rfl) B1 (fun _ _ => by kernel_rfl) ?_
          refine held_free 12 (.bool true) rfl (by kernel_rfl) (by kernel_rfl) (by kernel_rfl) (by kernel_rfl) B1 (fun _ _ => by kernel_rfl) ?_
          refine held_free 13 (.pointer (some ⟨b0, 2, none⟩)) rfl (by kernel_rfl) (by kernel_rfl) (by kernel_rfl) (by kernel_rfl) B1 (fun _ _ => ex_field (v := .pointer (some ⟨b0, 0, none⟩)) 26 (.tmp 1) 2 (by kernel_rfl) (by kernel_rfl) (by kernel_rfl)) ?_
          refine held_free 14 (.bool true) rfl (by kernel_rfl) (by kernel_rfl) (by kernel_rfl) (by kernel_rfl) B1 (fun W b => ex_load 4 (.tmp 16) (by kernel_rfl) ⟨b0, 2, none⟩ (by kernel_rfl) (by kernel_rfl) ((HX.out.below b HX.out.lt).cell 2)) ?_
          refine held_free 15 (.bool true) rfl (by kernel_rfl) (by kernel_rfl) (by kernel_rfl) (by kernel_rfl) B1 (fun _ _ => by kernel_rfl) ?_
          refine held_pass 16 rfl (by kernel_rfl) (by kernel_rfl) (by kernel_rfl) (by kernel_rfl) B1 ?_
          refine held_pass 17 rfl (by kernel_rfl) (by kernel_rfl) (by kernel_rfl) (by kernel_rfl) B1 ?_
          refine held_pass 18 rfl (by kernel_rfl) (by kernel_rfl) (by kernel_rfl) (by kernel_rfl) B1 ?_
          refine held_free 19 (.bool true) rfl (by kernel_rfl) (by kernel_rfl) (by kernel_rfl) (by kernel_rfl) B1 (fun _ _ => by kernel_rfl) ?_
          refine held_free 20 (.bool true) rfl (by kernel_rfl) (by kernel_rfl) (by kernel_rfl) (by kernel_rfl) B1 (fun _ _ => by kernel_rfl) ?_
          refine held_free 21 (.bool true) rfl (by kernel_rfl) (by kernel_rfl) (by kernel_rfl) (by kernel_rfl) B1 (fun _ _ => by kernel_rfl) ?_
          refine held_free 22 (.pointer (some ⟨b0, 5, none⟩)) rfl (by kernel_rfl) (by kernel_rfl) (by kernel_rfl) (by kernel_rfl) B1 (fun _ _ => ex_field (v := .pointer (some ⟨b0, 0, none⟩)) 26 (.tmp 1) 5 (by kernel_rfl) (by kernel_rfl) (by kernel_rfl)) ?_
          refine held_free 23 (.bool false) rfl (by kernel_rfl) (by kernel_rfl) (by kernel_rfl) (by kernel_rfl) B1 (fun W b => ex_load 4 (.tmp 25) (by kernel_rfl) ⟨b0, 5, none⟩ (by kernel_rfl) (by kernel_rfl) ((HX.out.below b HX.out.lt).cell 5)) ?_
          refine held_free 24 (.bool false) rfl (by kernel_rfl) (by kernel_rfl) (by kernel_rfl) (by kernel_rfl) B1 (fun _ _ => by kernel_rfl) ?_
          refine held_free 25 (.pointer (some ⟨b0, 6, none⟩)) rfl (by kernel_rfl) (by kernel_rfl) (by kernel_rfl) (by kernel_rfl) B1 (fun _ _ => ex_field (v := .pointer (some ⟨b0, 0, none⟩)) 26 (.tmp 1) 6 (by kernel_rfl) (by kernel_rfl) (by kernel_rfl)) ?_
          refine held_free 26 (.int .u64 (dsn : Int)) rfl (by kernel_rfl) (by kernel_rfl) (by kernel_rfl) (by kernel_rfl) B1 (fun W b => ex_load 22 (.tmp 28) (by kernel_rfl) ⟨b0, 6, none⟩ (by kernel_rfl) (by kernel_rfl) ((HX.out.below b HX.out.lt).cell 6)) ?_
          refine held_free 27 (.bool true) rfl (by kernel_rfl) (by kernel_rfl) (by kernel_rfl) (by kernel_rfl) B1 (fun _ _ => ex_intltb .u64 22 22 (.tmp 29) (.const (.int .u64 4294967296)) (by kernel_rfl) ((dsn : Int)) (4294967296) (by kernel_rfl) (by kernel_rfl) (by kernel_rfl) true (H2.out)) ?_
          refine held_free 28 (.bool true) rfl (by kernel_rfl) (by kernel_rfl) (by kernel_rfl) (by kernel_rfl) B1 (fun _ _ => by kernel_rfl) ?_
          refine held_free 29 (.bool true) rfl (by kernel_rfl) (by kernel_rfl) (by kernel_rfl) (by kernel_rfl) B1 (fun _ _ => by kernel_rfl) ?_
          refine held_free 30 (.bool true) rfl (by kernel_rfl) (by kernel_rfl) (by kernel_rfl) (by kernel_rfl) B1 (fun _ _ => by kernel_rfl) ?_
          refine held_free 31 (.pointer (some ⟨b0, 8, none⟩)) rfl (by kernel_rfl) (by kernel_rfl) (by kernel_rfl) (by kernel_rfl) B1 (fun _ _ => ex_field (v := .pointer (some ⟨b0, 0, none⟩)) 26 (.tmp 1) 8 (by kernel_rfl) (by kernel_rfl) (by kernel_rfl)) ?_
          refine held_free 32 (.int .i64 len) rfl (by kernel_rfl) (by kernel_rfl) (by kernel_rfl) (by kernel_rfl) B1 (fun W b => ex_load 3 (.tmp 34) (by kernel_rfl) ⟨b0, 8, none⟩ (by kernel_rfl) (by kernel_rfl) ((HX.out.below b HX.out.lt).cell 8)) ?_
          refine held_free 33 (.bool true) rfl (by kernel_rfl) (by kernel_rfl) (by kernel_rfl) (by kernel_rfl) B1 (fun _ _ => ex_intgeb .i64 3 3 (.tmp 35) (.const (.int .i64 0)) (by kernel_rfl) (len) (0) (by kernel_rfl) (by kernel_rfl) (by kernel_rfl) true (H3.out)) ?_
          refine held_free 34 (.bool true) rfl (by kernel_rfl) (by kernel_rfl) (by kernel_rfl) (by kernel_rfl) B1 (fun _ _ => by kernel_rfl) ?_
          refine held_free 35 (.bool true) rfl (by kernel_rfl) (by kernel_rfl) (by kernel_rfl) (by kernel_rfl) B1 (fun _ _ => by kernel_rfl) ?_
          refine held_free 36 (.pointer (some ⟨b0, 8, none⟩)) rfl (by kernel_rfl) (by kernel_rfl) (by kernel_rfl) (by kernel_rfl) B1 (fun _ _ => ex_field (v := .pointer (some ⟨b0, 0, none⟩)) 26 (.tmp 1) 8 (by kernel_rfl) (by kernel_rfl) (by kernel_rfl)) ?_
          refine held_free 37 (.int .i64 len) rfl (by kernel_rfl) (by kernel_rfl) (by kernel_rfl) (by kernel_rfl) B1 (fun W b => ex_load 3 (.tmp 39) (by kernel_rfl) ⟨b0, 8, none⟩ (by kernel_rfl) (by kernel_rfl) ((HX.out.below b HX.out.lt).cell 8)) ?_
          refine held_free 38 (.bool true) rfl (by kernel_rfl) (by kernel_rfl) (by kernel_rfl) (by kernel_rfl) B1 (fun _ _ => ex_intleb .i64 3 3 (.tmp 40) (.const (.int .i64 65535)) (by kernel_rfl) (len) (65535) (by kernel_rfl) (by kernel_rfl) (by kernel_rfl) true (H4.out)) ?_
          refine held_free 39 (.bool true) rfl (by kernel_rfl) (by kernel_rfl) (by kernel_rfl) (by kernel_rfl) B1 (fun _ _ => by kernel_rfl) ?_
          refine held_free 40 (.bool true) rfl (by kernel_rfl) (by kernel_rfl) (by kernel_rfl) (by kernel_rfl) B1 (fun _ _ => by kernel_rfl) ?_
          refine held_end (by kernel_rfl) ?_
          go_wp2_with fail
          rw [HMM.out]
          exact ret_slot 2 (.bool true) (by kernel_rfl) (by kernel_rfl) (by kernel_rfl) ⟨rfl, by have q := HBV.out.trans (B1.mono HBV.out.size); first | exact q | (rw [HB0.out]; exact q)⟩
        · have H0 := Lib.hid (show deq (⟨fin, true, true, ack, hm, false, dsn, ssn, len, hs, sum⟩ : Ds) (Ds.bare (⟨fin, true, true, ack, hm, false, dsn, ssn, len, hs, sum⟩ : Ds)) = true from (deq_iff _ _).2 hbare.symm)
          have H2 := Lib.hid (show decide ((dsn : Int) < 4294967296) = true from decide_eq_true hdsn)
          have H3 := Lib.hid (show decide ((0 : Int) ≤ len) = true from decide_eq_true hlo)
          have H4 := Lib.hid (show decide (len ≤ 65535) = false from decide_eq_false hhi)
          have HX := Lib.hid hx0
          have HMM := Lib.hid (show M = false from hM.trans (decide_eq_false fun m => hhi m.2.2.2.2.2))
          have HB0 := Lib.hid hb0
          have HVE := Lib.hid hV
          clear hx0 hb0 hV hM
          go_enter Try.func23, Try.ntmps23
          go_upto_region 1 with fail
          rw [← HVE.out, ← HB0.out]
          clear HVE
          have B0 : Below V.heap.size V V.drew := (Below.refl _ V).drew
          refine held_start (fun W => Below V.heap.size V W) (by kernel_rfl) (n := 41) rfl ?_
          obtain ⟨W0, hW0⟩ : ∃ W0, W0 = V.drew := ⟨_, rfl⟩
          rw [← hW0] at B0 ⊢
          clear hW0
          refine held_free 0 (.pointer (some ⟨b0, 1, none⟩)) rfl (by kernel_rfl) (by kernel_rfl) (by kernel_rfl) (by kernel_rfl) B0 (fun _ _ => ex_field (v := .pointer (some ⟨b0, 0, none⟩)) 26 (.tmp 1) 1 (by kernel_rfl) (by kernel_rfl) (by kernel_rfl)) ?_
          refine held_free 1 (.bool true) rfl (by kernel_rfl) (by kernel_rfl) (by kernel_rfl) (by kernel_rfl) B0 (fun W b => ex_load 4 (.tmp 3) (by kernel_rfl) ⟨b0, 1, none⟩ (by kernel_rfl) (by kernel_rfl) ((HX.out.below b HX.out.lt).cell 1)) ?_
          refine held_free 2 (.bool true) rfl (by kernel_rfl) (by kernel_rfl) (by kernel_rfl) (by kernel_rfl) B0 (fun _ _ => by kernel_rfl) ?_
          refine held_pass 3 rfl (by kernel_rfl) (by kernel_rfl) (by kernel_rfl) (by kernel_rfl) B0 ?_
          refine held_pass 4 rfl (by kernel_rfl) (by kernel_rfl) (by kernel_rfl) (by kernel_rfl) B0 ?_
          refine held_free 5 (.bool true) rfl (by kernel_rfl) (by kernel_rfl) (by kernel_rfl) (by kernel_rfl) B0 (fun _ _ => by kernel_rfl) ?_
          refine held_free 6 (.bool true) rfl (by kernel_rfl) (by kernel_rfl) (by kernel_rfl) (by kernel_rfl) B0 (fun _ _ => by kernel_rfl) ?_
          refine held_free 7 (.agg (dsv (⟨fin, true, true, ack, hm, false, dsn, ssn, len, hs, sum⟩ : Ds))) rfl (by kernel_rfl) (by kernel_rfl) (by kernel_rfl) (by kernel_rfl) B0 (fun W b => exec_row_ 26 (.tmp 1) (by kernel_rfl) b0 (by kernel_rfl) 26 _ (0, 0) _ (HX.out.below b HX.out.lt) Try.underlying26 rfl ds_size) ?_
          refine held_free 8 (.agg (dsv (⟨fin, true, true, ack, hm, false, dsn, ssn, len, hs, sum⟩ : Ds))) rfl (by kernel_rfl) (by kernel_rfl) (by kernel_rfl) (by kernel_rfl) B0 (fun W b => exec_row_ 26 (.tmp 1) (by kernel_rfl) b0 (by kernel_rfl) 26 _ (0, 0) _ (HX.out.below b HX.out.lt) Try.underlying26 rfl ds_size) ?_
          refine held_call 9 rfl (by kernel_rfl) (by kernel_rfl) (by kernel_rfl) (bareR_any (⟨fin, true, true, ack, hm, false, dsn, ssn, len, hs, sum⟩ : Ds) _) (fun w' h => bel_in B0 h) ?_
          intro W1 hW1
          have B1 := bel_in B0 hW1
          clear hW1 B0
          refine held_free 10 (.bool true) rfl (by kernel_rfl) (by kernel_rfl) (by kernel_rfl) (by kernel_rfl) B1 (fun W b => ex_aggeq 26 26 (.tmp 10) (.tmp 12) (by kernel_rfl) ((dsv (⟨fin, true, true, ack, hm, false, dsn, ssn, len, hs, sum⟩ : Ds))) ((dsv (Ds.bare (⟨fin, true, true, ack, hm, false, dsn, ssn, len, hs, sum⟩ : Ds)))) (by kernel_rfl) (by kernel_rfl) (by kernel_rfl) true (ds_equal_b _ _ true H0.out W)) ?_
          refine held_free 11 (.bool true) rfl (by kernel_rfl) (by kernel_rfl) (by kernel_rfl) (by kernel_rfl) B1 (fun _ _ => by kernel_rfl) ?_
          refine held_free 12 (.bool true) rfl (by kernel_rfl) (by kernel_rfl) (by kernel_rfl) (by kernel_rfl) B1 (fun _ _ => by kernel_rfl) ?_
          refine held_free 13 (.pointer (some ⟨b0, 2, none⟩)) rfl (by kernel_rfl) (by kernel_rfl) (by kernel_rfl) (by kernel_rfl) B1 (fun _ _ => ex_field (v := .pointer (some ⟨b0, 0, none⟩)) 26 (.tmp 1) 2 (by kernel_rfl) (by kernel_rfl) (by kernel_rfl)) ?_
          refine held_free 14 (.bool true) rfl (by kernel_rfl) (by kernel_rfl) (by kernel_rfl) (by kernel_rfl) B1 (fun W b => ex_load 4 (.tmp 16) (by kernel_rfl) ⟨b0, 2, none⟩ (by kernel_rfl) (by kernel_rfl) ((HX.out.below b HX.out.lt).cell 2)) ?_
          refine held_free 15 (.bool true) rfl (by kernel_rfl) (by kernel_rfl) (by kernel_rfl) (by kernel_rfl) B1 (fun _ _ => by kernel_rfl) ?_
          refine held_pass 16 rfl (by kernel_rfl) (by kernel_rfl) (by kernel_rfl) (by kernel_rfl) B1 ?_
          refine held_pass 17 rfl (by kernel_rfl) (by kernel_rfl) (by kernel_rfl) (by kernel_rfl) B1 ?_
          refine held_pass 18 rfl (by kernel_rfl) (by kernel_rfl) (by kernel_rfl) (by kernel_rfl) B1 ?_
          refine held_free 19 (.bool true) rfl (by kernel_rfl) (by kernel_rfl) (by kernel_rfl) (by kernel_rfl) B1 (fun _ _ => by kernel_rfl) ?_
          refine held_free 20 (.bool true) rfl (by kernel_rfl) (by kernel_rfl) (by kernel_rfl) (by kernel_rfl) B1 (fun _ _ => by kernel_rfl) ?_
          refine held_free 21 (.bool true) rfl (by kernel_rfl) (by kernel_rfl) (by kernel_rfl) (by kernel_rfl) B1 (fun _ _ => by kernel_rfl) ?_
          refine held_free 22 (.pointer (some ⟨b0, 5, none⟩)) rfl (by kernel_rfl) (by kernel_rfl) (by kernel_rfl) (by kernel_rfl) B1 (fun _ _ => ex_field (v := .pointer (some ⟨b0, 0, none⟩)) 26 (.tmp 1) 5 (by kernel_rfl) (by kernel_rfl) (by kernel_rfl)) ?_
          refine held_free 23 (.bool false) rfl (by kernel_rfl) (by kernel_rfl) (by kernel_rfl) (by kernel_rfl) B1 (fun W b => ex_load 4 (.tmp 25) (by kernel_rfl) ⟨b0, 5, none⟩ (by kernel_rfl) (by kernel_rfl) ((HX.out.below b HX.out.lt).cell 5)) ?_
          refine held_free 24 (.bool false) rfl (by kernel_rfl) (by kernel_rfl) (by kernel_rfl) (by kernel_rfl) B1 (fun _ _ => by kernel_rfl) ?_
          refine held_free 25 (.pointer (some ⟨b0, 6, none⟩)) rfl (by kernel_rfl) (by kernel_rfl) (by kernel_rfl) (by kernel_rfl) B1 (fun _ _ => ex_field (v := .pointer (some ⟨b0, 0, none⟩)) 26 (.tmp 1) 6 (by kernel_rfl) (by kernel_rfl) (by kernel_rfl)) ?_
          refine held_free 26 (.int .u64 (dsn : Int)) rfl (by kernel_rfl) (by kernel_rfl) (by kernel_rfl) (by kernel_rfl) B1 (fun W b => ex_load 22 (.tmp 28) (by kernel_rfl) ⟨b0, 6, none⟩ (by kernel_rfl) (by kernel_rfl) ((HX.out.below b HX.out.lt).cell 6)) ?_
          refine held_free 27 (.bool true) rfl (by kernel_rfl) (by kernel_rfl) (by kernel_rfl) (by kernel_rfl) B1 (fun _ _ => ex_intltb .u64 22 22 (.tmp 29) (.const (.int .u64 4294967296)) (by kernel_rfl) ((dsn : Int)) (4294967296) (by kernel_rfl) (by kernel_rfl) (by kernel_rfl) true (H2.out)) ?_
          refine held_free 28 (.bool true) rfl (by kernel_rfl) (by kernel_rfl) (by kernel_rfl) (by kernel_rfl) B1 (fun _ _ => by kernel_rfl) ?_
          refine held_free 29 (.bool true) rfl (by kernel_rfl) (by kernel_rfl) (by kernel_rfl) (by kernel_rfl) B1 (fun _ _ => by kernel_rfl) ?_
          refine held_free 30 (.bool true) rfl (by kernel_rfl) (by kernel_rfl) (by kernel_rfl) (by kernel_rfl) B1 (fun _ _ => by kernel_rfl) ?_
          refine held_free 31 (.pointer (some ⟨b0, 8, none⟩)) rfl (by kernel_rfl) (by kernel_rfl) (by kernel_rfl) (by kernel_rfl) B1 (fun _ _ => ex_field (v := .pointer (some ⟨b0, 0, none⟩)) 26 (.tmp 1) 8 (by kernel_rfl) (by kernel_rfl) (by kernel_rfl)) ?_
          refine held_free 32 (.int .i64 len) rfl (by kernel_rfl) (by kernel_rfl) (by kernel_rfl) (by kernel_rfl) B1 (fun W b => ex_load 3 (.tmp 34) (by kernel_rfl) ⟨b0, 8, none⟩ (by kernel_rfl) (by kernel_rfl) ((HX.out.below b HX.out.lt).cell 8)) ?_
          refine held_free 33 (.bool true) rfl (by kernel_rfl) (by kernel_rfl) (by kernel_rfl) (by kernel_rfl) B1 (fun _ _ => ex_intgeb .i64 3 3 (.tmp 35) (.const (.int .i64 0)) (by kernel_rfl) (len) (0) (by kernel_rfl) (by kernel_rfl) (by kernel_rfl) true (H3.out)) ?_
          refine held_free 34 (.bool true) rfl (by kernel_rfl) (by kernel_rfl) (by kernel_rfl) (by kernel_rfl) B1 (fun _ _ => by kernel_rfl) ?_
          refine held_free 35 (.bool true) rfl (by kernel_rfl) (by kernel_rfl) (by kernel_rfl) (by kernel_rfl) B1 (fun _ _ => by kernel_rfl) ?_
          refine held_free 36 (.pointer (some ⟨b0, 8, none⟩)) rfl (by kernel_rfl) (by kernel_rfl) (by kernel_rfl) (by kernel_rfl) B1 (fun _ _ => ex_field (v := .pointer (some ⟨b0, 0, none⟩)) 26 (.tmp 1) 8 (by kernel_rfl) (by kernel_rfl) (by kernel_rfl)) ?_
          refine held_free 37 (.int .i64 len) rfl (by kernel_rfl) (by kernel_rfl) (by kernel_rfl) (by kernel_rfl) B1 (fun W b => ex_load 3 (.tmp 39) (by kernel_rfl) ⟨b0, 8, none⟩ (by kernel_rfl) (by kernel_rfl) ((HX.out.below b HX.out.lt).cell 8)) ?_
          refine held_free 38 (.bool false) rfl (by kernel_rfl) (by kernel_rfl) (by kernel_rfl) (by kernel_rfl) B1 (fun _ _ => ex_intleb .i64 3 3 (.tmp 40) (.const (.int .i64 65535)) (by kernel_rfl) (len) (65535) (by kernel_rfl) (by kernel_rfl) (by kernel_rfl) false (H4.out)) ?_
          refine held_free 39 (.bool false) rfl (by kernel_rfl) (by kernel_rfl) (by kernel_rfl) (by kernel_rfl) B1 (fun _ _ => by kernel_rfl) ?_
          refine held_free 40 (.bool false) rfl (by kernel_rfl) (by kernel_rfl) (by kernel_rfl) (by kernel_rfl) B1 (fun _ _ => by kernel_rfl) ?_
          refine held_end (by kernel_rfl) ?_
          go_wp2_with fail
          rw [HMM.out]
          exact ret_slot 2 (.bool false) (by kernel_rfl) (by kernel_rfl) (by kernel_rfl) ⟨rfl, by have q := HBV.out.trans (B1.mono HBV.out.size); first | exact q | (rw [HB0.out]; exact q)⟩
      · have H0 := Lib.hid (show deq (⟨fin, true, true, ack, hm, false, dsn, ssn, len, hs, sum⟩ : Ds) (Ds.bare (⟨fin, true, true, ack, hm, false, dsn, ssn, len, hs, sum⟩ : Ds)) = true from (deq_iff _ _).2 hbare.symm)
        have H2 := Lib.hid (show decide ((dsn : Int) < 4294967296) = true from decide_eq_true hdsn)
        have H3 := Lib.hid (show decide ((0 : Int) ≤ len) = false from decide_eq_false hlo)
        have HX := Lib.hid hx0
        have HMM := Lib.hid (show M = false from hM.trans (decide_eq_false fun m => hlo m.2.2.2.2.1))
        have HB0 := Lib.hid hb0
        have HVE := Lib.hid hV
        clear hx0 hb0 hV hM
        go_enter Try.func23, Try.ntmps23
        go_upto_region 1 with fail
        rw [← HVE.out, ← HB0.out]
        clear HVE
        have B0 : Below V.heap.size V V.drew := (Below.refl _ V).drew
        refine held_start (fun W => Below V.heap.size V W) (by kernel_rfl) (n := 41) rfl ?_
        obtain ⟨W0, hW0⟩ : ∃ W0, W0 = V.drew := ⟨_, rfl⟩
        rw [← hW0] at B0 ⊢
        clear hW0
        refine held_free 0 (.pointer (some ⟨b0, 1, none⟩)) rfl (by kernel_rfl) (by kernel_rfl) (by kernel_rfl) (by kernel_rfl) B0 (fun _ _ => ex_field (v := .pointer (some ⟨b0, 0, none⟩)) 26 (.tmp 1) 1 (by kernel_rfl) (by kernel_rfl) (by kernel_rfl)) ?_
        refine held_free 1 (.bool true) rfl (by kernel_rfl) (by kernel_rfl) (by kernel_rfl) (by kernel_rfl) B0 (fun W b => ex_load 4 (.tmp 3) (by kernel_rfl) ⟨b0, 1, none⟩ (by kernel_rfl) (by kernel_rfl) ((HX.out.below b HX.out.lt).cell 1)) ?_
        refine held_free 2 (.bool true) rfl (by kernel_rfl) (by kernel_rfl) (by kernel_rfl) (by kernel_rfl) B0 (fun _ _ => by kernel_rfl) ?_
        refine held_pass 3 rfl (by kernel_rfl) (by kernel_rfl) (by kernel_rfl) (by kernel_rfl) B0 ?_
        refine held_pass 4 rfl (by kernel_rfl) (by kernel_rfl) (by kernel_rfl) (by kernel_rfl) B0 ?_
        refine held_free 5 (.bool true) rfl (by kernel_rfl) (by kernel_rfl) (by kernel_rfl) (by kernel_rfl) B0 (fun _ _ => by kernel_rfl) ?_
        refine held_free 6 (.bool true) rfl (by kernel_rfl) (by kernel_rfl) (by kernel_rfl) (by kernel_rfl) B0 (fun _ _ => by kernel_rfl) ?_
        refine held_free 7 (.agg (dsv (⟨fin, true, true, ack, hm, false, dsn, ssn, len, hs, sum⟩ : Ds))) rfl (by kernel_rfl) (by kernel_rfl) (by kernel_rfl) (by kernel_rfl) B0 (fun W b => exec_row_ 26 (.tmp 1) (by kernel_rfl) b0 (by kernel_rfl) 26 _ (0, 0) _ (HX.out.below b HX.out.lt) Try.underlying26 rfl ds_size) ?_
        refine held_free 8 (.agg (dsv (⟨fin, true, true, ack, hm, false, dsn, ssn, len, hs, sum⟩ : Ds))) rfl (by kernel_rfl) (by kernel_rfl) (by kernel_rfl) (by kernel_rfl) B0 (fun W b => exec_row_ 26 (.tmp 1) (by kernel_rfl) b0 (by kernel_rfl) 26 _ (0, 0) _ (HX.out.below b HX.out.lt) Try.underlying26 rfl ds_size) ?_
        refine held_call 9 rfl (by kernel_rfl) (by kernel_rfl) (by kernel_rfl) (bareR_any (⟨fin, true, true, ack, hm, false, dsn, ssn, len, hs, sum⟩ : Ds) _) (fun w' h => bel_in B0 h) ?_
        intro W1 hW1
        have B1 := bel_in B0 hW1
        clear hW1 B0
        refine held_free 10 (.bool true) rfl (by kernel_rfl) (by kernel_rfl) (by kernel_rfl) (by kernel_rfl) B1 (fun W b => ex_aggeq 26 26 (.tmp 10) (.tmp 12) (by kernel_rfl) ((dsv (⟨fin, true, true, ack, hm, false, dsn, ssn, len, hs, sum⟩ : Ds))) ((dsv (Ds.bare (⟨fin, true, true, ack, hm, false, dsn, ssn, len, hs, sum⟩ : Ds)))) (by kernel_rfl) (by kernel_rfl) (by kernel_rfl) true (ds_equal_b _ _ true H0.out W)) ?_
        refine held_free 11 (.bool true) rfl (by kernel_rfl) (by kernel_rfl) (by kernel_rfl) (by kernel_rfl) B1 (fun _ _ => by kernel_rfl) ?_
        refine held_free 12 (.bool true) rfl (by kernel_rfl) (by kernel_rfl) (by kernel_rfl) (by kernel_rfl) B1 (fun _ _ => by kernel_rfl) ?_
        refine held_free 13 (.pointer (some ⟨b0, 2, none⟩)) rfl (by kernel_rfl) (by kernel_rfl) (by kernel_rfl) (by kernel_rfl) B1 (fun _ _ => ex_field (v := .pointer (some ⟨b0, 0, none⟩)) 26 (.tmp 1) 2 (by kernel_rfl) (by kernel_rfl) (by kernel_rfl)) ?_
        refine held_free 14 (.bool true) rfl (by kernel_rfl) (by kernel_rfl) (by kernel_rfl) (by kernel_rfl) B1 (fun W b => ex_load 4 (.tmp 16) (by kernel_rfl) ⟨b0, 2, none⟩ (by kernel_rfl) (by kernel_rfl) ((HX.out.below b HX.out.lt).cell 2)) ?_
        refine held_free 15 (.bool true) rfl (by kernel_rfl) (by kernel_rfl) (by kernel_rfl) (by kernel_rfl) B1 (fun _ _ => by kernel_rfl) ?_
        refine held_pass 16 rfl (by kernel_rfl) (by kernel_rfl) (by kernel_rfl) (by kernel_rfl) B1 ?_
        refine held_pass 17 rfl (by kernel_rfl) (by kernel_rfl) (by kernel_rfl) (by kernel_rfl) B1 ?_
        refine held_pass 18 rfl (by kernel_rfl) (by kernel_rfl) (by kernel_rfl) (by kernel_rfl) B1 ?_
        refine held_free 19 (.bool true) rfl (by kernel_rfl) (by kernel_rfl) (by kernel_rfl) (by kernel_rfl) B1 (fun _ _ => by kernel_rfl) ?_
        refine held_free 20 (.bool true) rfl (by kernel_rfl) (by kernel_rfl) (by kernel_rfl) (by kernel_rfl) B1 (fun _ _ => by kernel_rfl) ?_
        refine held_free 21 (.bool true) rfl (by kernel_rfl) (by kernel_rfl) (by kernel_rfl) (by kernel_rfl) B1 (fun _ _ => by kernel_rfl) ?_
        refine held_free 22 (.pointer (some ⟨b0, 5, none⟩)) rfl (by kernel_rfl) (by kernel_rfl) (by kernel_rfl) (by kernel_rfl) B1 (fun _ _ => ex_field (v := .pointer (some ⟨b0, 0, none⟩)) 26 (.tmp 1) 5 (by kernel_rfl) (by kernel_rfl) (by kernel_rfl)) ?_
        refine held_free 23 (.bool false) rfl (by kernel_rfl) (by kernel_rfl) (by kernel_rfl) (by kernel_rfl) B1 (fun W b => ex_load 4 (.tmp 25) (by kernel_rfl) ⟨b0, 5, none⟩ (by kernel_rfl) (by kernel_rfl) ((HX.out.below b HX.out.lt).cell 5)) ?_
        refine held_free 24 (.bool false) rfl (by kernel_rfl) (by kernel_rfl) (by kernel_rfl) (by kernel_rfl) B1 (fun _ _ => by kernel_rfl) ?_
        refine held_free 25 (.pointer (some ⟨b0, 6, none⟩)) rfl (by kernel_rfl) (by kernel_rfl) (by kernel_rfl) (by kernel_rfl) B1 (fun _ _ => ex_field (v := .pointer (some ⟨b0, 0, none⟩)) 26 (.tmp 1) 6 (by kernel_rfl) (by kernel_rfl) (by kernel_rfl)) ?_
        refine held_free 26 (.int .u64 (dsn : Int)) rfl (by kernel_rfl) (by kernel_rfl) (by kernel_rfl) (by kernel_rfl) B1 (fun W b => ex_load 22 (.tmp 28) (by kernel_rfl) ⟨b0, 6, none⟩ (by kernel_rfl) (by kernel_rfl) ((HX.out.below b HX.out.lt).cell 6)) ?_
        refine held_free 27 (.bool true) rfl (by kernel_rfl) (by kernel_rfl) (by kernel_rfl) (by kernel_rfl) B1 (fun _ _ => ex_intltb .u64 22 22 (.tmp 29) (.const (.int .u64 4294967296)) (by kernel_rfl) ((dsn : Int)) (4294967296) (by kernel_rfl) (by kernel_rfl) (by kernel_rfl) true (H2.out)) ?_
        refine held_free 28 (.bool true) rfl (by kernel_rfl) (by kernel_rfl) (by kernel_rfl) (by kernel_rfl) B1 (fun _ _ => by kernel_rfl) ?_
        refine held_free 29 (.bool true) rfl (by kernel_rfl) (by kernel_rfl) (by kernel_rfl) (by kernel_rfl) B1 (fun _ _ => by kernel_rfl) ?_
        refine held_free 30 (.bool true) rfl (by kernel_rfl) (by kernel_rfl) (by kernel_rfl) (by kernel_rfl) B1 (fun _ _ => by kernel_rfl) ?_
        refine held_free 31 (.pointer (some ⟨b0, 8, none⟩)) rfl (by kernel_rfl) (by kernel_rfl) (by kernel_rfl) (by kernel_rfl) B1 (fun _ _ => ex_field (v := .pointer (some ⟨b0, 0, none⟩)) 26 (.tmp 1) 8 (by kernel_rfl) (by kernel_rfl) (by kernel_rfl)) ?_
        refine held_free 32 (.int .i64 len) rfl (by kernel_rfl) (by kernel_rfl) (by kernel_rfl) (by kernel_rfl) B1 (fun W b => ex_load 3 (.tmp 34) (by kernel_rfl) ⟨b0, 8, none⟩ (by kernel_rfl) (by kernel_rfl) ((HX.out.below b HX.out.lt).cell 8)) ?_
        refine held_free 33 (.bool false) rfl (by kernel_rfl) (by kernel_rfl) (by kernel_rfl) (by kernel_rfl) B1 (fun _ _ => ex_intgeb .i64 3 3 (.tmp 35) (.const (.int .i64 0)) (by kernel_rfl) (len) (0) (by kernel_rfl) (by kernel_rfl) (by kernel_rfl) false (H3.out)) ?_
        refine held_free 34 (.bool false) rfl (by kernel_rfl) (by kernel_rfl) (by kernel_rfl) (by kernel_rfl) B1 (fun _ _ => by kernel_rfl) ?_
        refine held_free 35 (.bool false) rfl (by kernel_rfl) (by kernel_rfl) (by kernel_rfl) (by kernel_rfl) B1 (fun _ _ => by kernel_rfl) ?_
        refine held_pass 36 rfl (by kernel_rfl) (by kernel_rfl) (by kernel_rfl) (by kernel_rfl) B1 ?_
        refine held_pass 37 rfl (by kernel_rfl) (by kernel_rfl) (by kernel_rfl) (by kernel_rfl) B1 ?_
        refine held_pass 38 rfl (by kernel_rfl) (by kernel_rfl) (by kernel_rfl) (by kernel_rfl) B1 ?_
        refine held_free 39 (.bool false) rfl (by kernel_rfl) (by kernel_rfl) (by kernel_rfl) (by kernel_rfl) B1 (fun _ _ => by kernel_rfl) ?_
        refine held_free 40 (.bool false) rfl (by kernel_rfl) (by kernel_rfl) (by kernel_rfl) (by kernel_rfl) B1 (fun _ _ => by kernel_rfl) ?_
        refine held_end (by kernel_rfl) ?_
        go_wp2_with fail
        rw [HMM.out]
        exact ret_slot 2 (.bool false) (by kernel_rfl) (by kernel_rfl) (by kernel_rfl) ⟨rfl, by have q := HBV.out.trans (B1.mono HBV.out.size); first | exact q | (rw [HB0.out]; exact q)⟩
    · have H0 := Lib.hid (show deq (⟨fin, true, true, ack, hm, false, dsn, ssn, len, hs, sum⟩ : Ds) (Ds.bare (⟨fin, true, true, ack, hm, false, dsn, ssn, len, hs, sum⟩ : Ds)) = true from (deq_iff _ _).2 hbare.symm)
      have H2 := Lib.hid (show decide ((dsn : Int) < 4294967296) = false from decide_eq_false hdsn)
      have HX := Lib.hid hx0
      have HMM := Lib.hid (show M = false from hM.trans (decide_eq_false fun m => hdsn (by have q := m.2.2.2.1; simp at q; omega)))
      have HB0 := Lib.hid hb0
      have HVE := Lib.hid hV
      clear hx0 hb0 hV hM
      go_enter Try.func23, Try.ntmps23
      go_upto_region 1 with fail
      rw [← HVE.out, ← HB0.out]
      clear HVE
      have B0 : Below V.heap.size V V.drew := (Below.refl _ V).drew
      refine held_start (fun W => Below V.heap.size V W) (by kernel_rfl) (n := 41) rfl ?_
      obtain ⟨W0, hW0⟩ : ∃ W0, W0 = V.drew := ⟨_, rfl⟩
      rw [← hW0] at B0 ⊢
      clear hW0
      refine held_free 0 (.pointer (some ⟨b0, 1, none⟩)) rfl (by kernel_rfl) (by kernel_rfl) (by kernel_rfl) (by kernel_rfl) B0 (fun _ _ => ex_field (v := .pointer (some ⟨b0, 0, none⟩)) 26 (.tmp 1) 1 (by kernel_rfl) (by kernel_rfl) (by kernel_rfl)) ?_
      refine held_free 1 (.bool true) rfl (by kernel_rfl) (by kernel_rfl) (by kernel_rfl) (by kernel_rfl) B0 (fun W b => ex_load 4 (.tmp 3) (by kernel_rfl) ⟨b0, 1, none⟩ (by kernel_rfl) (by kernel_rfl) ((HX.out.below b HX.out.lt).cell 1)) ?_
      refine held_free 2 (.bool true) rfl (by kernel_rfl) (by kernel_rfl) (by kernel_rfl) (by kernel_rfl) B0 (fun _ _ => by kernel_rfl) ?_
      refine held_pass 3 rfl (by kernel_rfl) (by kernel_rfl) (by kernel_rfl) (by kernel_rfl) B0 ?_
      refine held_pass 4 rfl (by kernel_rfl) (by kernel_rfl) (by kernel_rfl) (by kernel_rfl) B0 ?_
      refine held_free 5 (.bool true) rfl (by kernel_rfl) (by kernel_rfl) (by kernel_rfl) (by kernel_rfl) B0 (fun _ _ => by kernel_rfl) ?_
      refine held_free 6 (.bool true) rfl (by kernel_rfl) (by kernel_rfl) (by kernel_rfl) (by kernel_rfl) B0 (fun _ _ => by kernel_rfl) ?_
      refine held_free 7 (.agg (dsv (⟨fin, true, true, ack, hm, false, dsn, ssn, len, hs, sum⟩ : Ds))) rfl (by kernel_rfl) (by kernel_rfl) (by kernel_rfl) (by kernel_rfl) B0 (fun W b => exec_row_ 26 (.tmp 1) (by kernel_rfl) b0 (by kernel_rfl) 26 _ (0, 0) _ (HX.out.below b HX.out.lt) Try.underlying26 rfl ds_size) ?_
      refine held_free 8 (.agg (dsv (⟨fin, true, true, ack, hm, false, dsn, ssn, len, hs, sum⟩ : Ds))) rfl (by kernel_rfl) (by kernel_rfl) (by kernel_rfl) (by kernel_rfl) B0 (fun W b => exec_row_ 26 (.tmp 1) (by kernel_rfl) b0 (by kernel_rfl) 26 _ (0, 0) _ (HX.out.below b HX.out.lt) Try.underlying26 rfl ds_size) ?_
      refine held_call 9 rfl (by kernel_rfl) (by kernel_rfl) (by kernel_rfl) (bareR_any (⟨fin, true, true, ack, hm, false, dsn, ssn, len, hs, sum⟩ : Ds) _) (fun w' h => bel_in B0 h) ?_
      intro W1 hW1
      have B1 := bel_in B0 hW1
      clear hW1 B0
      refine held_free 10 (.bool true) rfl (by kernel_rfl) (by kernel_rfl) (by kernel_rfl) (by kernel_rfl) B1 (fun W b => ex_aggeq 26 26 (.tmp 10) (.tmp 12) (by kernel_rfl) ((dsv (⟨fin, true, true, ack, hm, false, dsn, ssn, len, hs, sum⟩ : Ds))) ((dsv (Ds.bare (⟨fin, true, true, ack, hm, false, dsn, ssn, len, hs, sum⟩ : Ds)))) (by kernel_rfl) (by kernel_rfl) (by kernel_rfl) true (ds_equal_b _ _ true H0.out W)) ?_
      refine held_free 11 (.bool true) rfl (by kernel_rfl) (by kernel_rfl) (by kernel_rfl) (by kernel_rfl) B1 (fun _ _ => by kernel_rfl) ?_
      refine held_free 12 (.bool true) rfl (by kernel_rfl) (by kernel_rfl) (by kernel_rfl) (by kernel_rfl) B1 (fun _ _ => by kernel_rfl) ?_
      refine held_free 13 (.pointer (some ⟨b0, 2, none⟩)) rfl (by kernel_rfl) (by kernel_rfl) (by kernel_rfl) (by kernel_rfl) B1 (fun _ _ => ex_field (v := .pointer (some ⟨b0, 0, none⟩)) 26 (.tmp 1) 2 (by kernel_rfl) (by kernel_rfl) (by kernel_rfl)) ?_
      refine held_free 14 (.bool true) rfl (by kernel_rfl) (by kernel_rfl) (by kernel_rfl) (by kernel_rfl) B1 (fun W b => ex_load 4 (.tmp 16) (by kernel_rfl) ⟨b0, 2, none⟩ (by kernel_rfl) (by kernel_rfl) ((HX.out.below b HX.out.lt).cell 2)) ?_
      refine held_free 15 (.bool true) rfl (by kernel_rfl) (by kernel_rfl) (by kernel_rfl) (by kernel_rfl) B1 (fun _ _ => by kernel_rfl) ?_
      refine held_pass 16 rfl (by kernel_rfl) (by kernel_rfl) (by kernel_rfl) (by kernel_rfl) B1 ?_
      refine held_pass 17 rfl (by kernel_rfl) (by kernel_rfl) (by kernel_rfl) (by kernel_rfl) B1 ?_
      refine held_pass 18 rfl (by kernel_rfl) (by kernel_rfl) (by kernel_rfl) (by kernel_rfl) B1 ?_
      refine held_free 19 (.bool true) rfl (by kernel_rfl) (by kernel_rfl) (by kernel_rfl) (by kernel_rfl) B1 (fun _ _ => by kernel_rfl) ?_
      refine held_free 20 (.bool true) rfl (by kernel_rfl) (by kernel_rfl) (by kernel_rfl) (by kernel_rfl) B1 (fun _ _ => by kernel_rfl) ?_
      refine held_free 21 (.bool true) rfl (by kernel_rfl) (by kernel_rfl) (by kernel_rfl) (by kernel_rfl) B1 (fun _ _ => by kernel_rfl) ?_
      refine held_free 22 (.pointer (some ⟨b0, 5, none⟩)) rfl (by kernel_rfl) (by kernel_rfl) (by kernel_rfl) (by kernel_rfl) B1 (fun _ _ => ex_field (v := .pointer (some ⟨b0, 0, none⟩)) 26 (.tmp 1) 5 (by kernel_rfl) (by kernel_rfl) (by kernel_rfl)) ?_
      refine held_free 23 (.bool false) rfl (by kernel_rfl) (by kernel_rfl) (by kernel_rfl) (by kernel_rfl) B1 (fun W b => ex_load 4 (.tmp 25) (by kernel_rfl) ⟨b0, 5, none⟩ (by kernel_rfl) (by kernel_rfl) ((HX.out.below b HX.out.lt).cell 5)) ?_
      refine held_free 24 (.bool false) rfl (by kernel_rfl) (by kernel_rfl) (by kernel_rfl) (by kernel_rfl) B1 (fun _ _ => by kernel_rfl) ?_
      refine held_free 25 (.pointer (some ⟨b0, 6, none⟩)) rfl (by kernel_rfl) (by kernel_rfl) (by kernel_rfl) (by kernel_rfl) B1 (fun _ _ => ex_field (v := .pointer (some ⟨b0, 0, none⟩)) 26 (.tmp 1) 6 (by kernel_rfl) (by kernel_rfl) (by kernel_rfl)) ?_
      refine held_free 26 (.int .u64 (dsn : Int)) rfl (by kernel_rfl) (by kernel_rfl) (by kernel_rfl) (by kernel_rfl) B1 (fun W b => ex_load 22 (.tmp 28) (by kernel_rfl) ⟨b0, 6, none⟩ (by kernel_rfl) (by kernel_rfl) ((HX.out.below b HX.out.lt).cell 6)) ?_
      refine held_free 27 (.bool false) rfl (by kernel_rfl) (by kernel_rfl) (by kernel_rfl) (by kernel_rfl) B1 (fun _ _ => ex_intltb .u64 22 22 (.tmp 29) (.const (.int .u64 4294967296)) (by kernel_rfl) ((dsn : Int)) (4294967296) (by kernel_rfl) (by kernel_rfl) (by kernel_rfl) false (H2.out)) ?_
      refine held_free 28 (.bool false) rfl (by kernel_rfl) (by kernel_rfl) (by kernel_rfl) (by kernel_rfl) B1 (fun _ _ => by kernel_rfl) ?_
      refine held_free 29 (.bool false) rfl (by kernel_rfl) (by kernel_rfl) (by kernel_rfl) (by kernel_rfl) B1 (fun _ _ => by kernel_rfl) ?_
      refine held_free 30 (.bool false) rfl (by kernel_rfl) (by kernel_rfl) (by kernel_rfl) (by kernel_rfl) B1 (fun _ _ => by kernel_rfl) ?_
      refine held_pass 31 rfl (by kernel_rfl) (by kernel_rfl) (by kernel_rfl) (by kernel_rfl) B1 ?_
      refine held_pass 32 rfl (by kernel_rfl) (by kernel_rfl) (by kernel_rfl) (by kernel_rfl) B1 ?_
      refine held_pass 33 rfl (by kernel_rfl) (by kernel_rfl) (by kernel_rfl) (by kernel_rfl) B1 ?_
      refine held_free 34 (.bool false) rfl (by kernel_rfl) (by kernel_rfl) (by kernel_rfl) (by kernel_rfl) B1 (fun _ _ => by kernel_rfl) ?_
      refine held_free 35 (.bool false) rfl (by kernel_rfl) (by kernel_rfl) (by kernel_rfl) (by kernel_rfl) B1 (fun _ _ => by kernel_rfl) ?_
      refine held_pass 36 rfl (by kernel_rfl) (by kernel_rfl) (by kernel_rfl) (by kernel_rfl) B1 ?_
      refine held_pass 37 rfl (by kernel_rfl) (by kernel_rfl) (by kernel_rfl) (by kernel_rfl) B1 ?_
      refine held_pass 38 rfl (by kernel_rfl) (by kernel_rfl) (by kernel_rfl) (by kernel_rfl) B1 ?_
      refine held_free 39 (.bool false) rfl (by kernel_rfl) (by kernel_rfl) (by kernel_rfl) (by kernel_rfl) B1 (fun _ _ => by kernel_rfl) ?_
      refine held_free 40 (.bool false) rfl (by kernel_rfl) (by kernel_rfl) (by kernel_rfl) (by kernel_rfl) B1 (fun _ _ => by kernel_rfl) ?_
      refine held_end (by kernel_rfl) ?_
      go_wp2_with fail
      rw [HMM.out]
      exact ret_slot 2 (.bool false) (by kernel_rfl) (by kernel_rfl) (by kernel_rfl) ⟨rfl, by have q := HBV.out.trans (B1.mono HBV.out.size); first | exact q | (rw [HB0.out]; exact q)⟩
  · have H0 := Lib.hid (show deq (⟨fin, true, true, ack, hm, false, dsn, ssn, len, hs, sum⟩ : Ds) (Ds.bare (⟨fin, true, true, ack, hm, false, dsn, ssn, len, hs, sum⟩ : Ds)) = false from deq_ne fun q => hbare q.symm)
    have HX := Lib.hid hx0
    have HMM := Lib.hid (show M = false from hM.trans (decide_eq_false fun m => hbare ((Ds.bare_iff _).2 m.2.1)))
    have HB0 := Lib.hid hb0
    have HVE := Lib.hid hV
    clear hx0 hb0 hV hM
    go_enter Try.func23, Try.ntmps23
    go_upto_region 1 with fail
    rw [← HVE.out, ← HB0.out]
    clear HVE
    have B0 : Below V.heap.size V V.drew := (Below.refl _ V).drew
    refine held_start (fun W => Below V.heap.size V W) (by kernel_rfl) (n := 41) rfl ?_
    obtain ⟨W0, hW0⟩ : ∃ W0, W0 = V.drew := ⟨_, rfl⟩
    rw [← hW0] at B0 ⊢
    clear hW0
    refine held_free 0 (.pointer (some ⟨b0, 1, none⟩)) rfl (by kernel_rfl) (by kernel_rfl) (by kernel_rfl) (by kernel_rfl) B0 (fun _ _ => ex_field (v := .pointer (some ⟨b0, 0, none⟩)) 26 (.tmp 1) 1 (by kernel_rfl) (by kernel_rfl) (by kernel_rfl)) ?_
    refine held_free 1 (.bool true) rfl (by kernel_rfl) (by kernel_rfl) (by kernel_rfl) (by kernel_rfl) B0 (fun W b => ex_load 4 (.tmp 3) (by kernel_rfl) ⟨b0, 1, none⟩ (by kernel_rfl) (by kernel_rfl) ((HX.out.below b HX.out.lt).cell 1)) ?_
    refine held_free 2 (.bool true) rfl (by kernel_rfl) (by kernel_rfl) (by kernel_rfl) (by kernel_rfl) B0 (fun _ _ => by kernel_rfl) ?_
    refine held_pass 3 rfl (by kernel_rfl) (by kernel_rfl) (by kernel_rfl) (by kernel_rfl) B0 ?_
    refine held_pass 4 rfl (by kernel_rfl) (by kernel_rfl) (by kernel_rfl) (by kernel_rfl) B0 ?_
    refine held_free 5 (.bool true) rfl (by kernel_rfl) (by kernel_rfl) (by kernel_rfl) (by kernel_rfl) B0 (fun _ _ => by kernel_rfl) ?_
    refine held_free 6 (.bool true) rfl (by kernel_rfl) (by kernel_rfl) (by kernel_rfl) (by kernel_rfl) B0 (fun _ _ => by kernel_rfl) ?_
    refine held_free 7 (.agg (dsv (⟨fin, true, true, ack, hm, false, dsn, ssn, len, hs, sum⟩ : Ds))) rfl (by kernel_rfl) (by kernel_rfl) (by kernel_rfl) (by kernel_rfl) B0 (fun W b => exec_row_ 26 (.tmp 1) (by kernel_rfl) b0 (by kernel_rfl) 26 _ (0, 0) _ (HX.out.below b HX.out.lt) Try.underlying26 rfl ds_size) ?_
    refine held_free 8 (.agg (dsv (⟨fin, true, true, ack, hm, false, dsn, ssn, len, hs, sum⟩ : Ds))) rfl (by kernel_rfl) (by kernel_rfl) (by kernel_rfl) (by kernel_rfl) B0 (fun W b => exec_row_ 26 (.tmp 1) (by kernel_rfl) b0 (by kernel_rfl) 26 _ (0, 0) _ (HX.out.below b HX.out.lt) Try.underlying26 rfl ds_size) ?_
    refine held_call 9 rfl (by kernel_rfl) (by kernel_rfl) (by kernel_rfl) (bareR_any (⟨fin, true, true, ack, hm, false, dsn, ssn, len, hs, sum⟩ : Ds) _) (fun w' h => bel_in B0 h) ?_
    intro W1 hW1
    have B1 := bel_in B0 hW1
    clear hW1 B0
    refine held_free 10 (.bool false) rfl (by kernel_rfl) (by kernel_rfl) (by kernel_rfl) (by kernel_rfl) B1 (fun W b => ex_aggeq 26 26 (.tmp 10) (.tmp 12) (by kernel_rfl) ((dsv (⟨fin, true, true, ack, hm, false, dsn, ssn, len, hs, sum⟩ : Ds))) ((dsv (Ds.bare (⟨fin, true, true, ack, hm, false, dsn, ssn, len, hs, sum⟩ : Ds)))) (by kernel_rfl) (by kernel_rfl) (by kernel_rfl) false (ds_equal_b _ _ false H0.out W)) ?_
    refine held_free 11 (.bool false) rfl (by kernel_rfl) (by kernel_rfl) (by kernel_rfl) (by kernel_rfl) B1 (fun _ _ => by kernel_rfl) ?_
    refine held_free 12 (.bool false) rfl (by kernel_rfl) (by kernel_rfl) (by kernel_rfl) (by kernel_rfl) B1 (fun _ _ => by kernel_rfl) ?_
    refine held_pass 13 rfl (by kernel_rfl) (by kernel_rfl) (by kernel_rfl) (by kernel_rfl) B1 ?_
    refine held_pass 14 rfl (by kernel_rfl) (by kernel_rfl) (by kernel_rfl) (by kernel_rfl) B1 ?_
    refine held_pass 15 rfl (by kernel_rfl) (by kernel_rfl) (by kernel_rfl) (by kernel_rfl) B1 ?_
    refine held_pass 16 rfl (by kernel_rfl) (by kernel_rfl) (by kernel_rfl) (by kernel_rfl) B1 ?_
    refine held_pass 17 rfl (by kernel_rfl) (by kernel_rfl) (by kernel_rfl) (by kernel_rfl) B1 ?_
    refine held_pass 18 rfl (by kernel_rfl) (by kernel_rfl) (by kernel_rfl) (by kernel_rfl) B1 ?_
    refine held_pass 19 rfl (by kernel_rfl) (by kernel_rfl) (by kernel_rfl) (by kernel_rfl) B1 ?_
    refine held_free 20 (.bool false) rfl (by kernel_rfl) (by kernel_rfl) (by kernel_rfl) (by kernel_rfl) B1 (fun _ _ => by kernel_rfl) ?_
    refine held_free 21 (.bool false) rfl (by kernel_rfl) (by kernel_rfl) (by kernel_rfl) (by kernel_rfl) B1 (fun _ _ => by kernel_rfl) ?_
    refine held_pass 22 rfl (by kernel_rfl) (by kernel_rfl) (by kernel_rfl) (by kernel_rfl) B1 ?_
    refine held_pass 23 rfl (by kernel_rfl) (by kernel_rfl) (by kernel_rfl) (by kernel_rfl) B1 ?_
    refine held_pass 24 rfl (by kernel_rfl) (by kernel_rfl) (by kernel_rfl) (by kernel_rfl) B1 ?_
    refine held_pass 25 rfl (by kernel_rfl) (by kernel_rfl) (by kernel_rfl) (by kernel_rfl) B1 ?_
    refine held_pass 26 rfl (by kernel_rfl) (by kernel_rfl) (by kernel_rfl) (by kernel_rfl) B1 ?_
    refine held_pass 27 rfl (by kernel_rfl) (by kernel_rfl) (by kernel_rfl) (by kernel_rfl) B1 ?_
    refine held_pass 28 rfl (by kernel_rfl) (by kernel_rfl) (by kernel_rfl) (by kernel_rfl) B1 ?_
    refine held_free 29 (.bool false) rfl (by kernel_rfl) (by kernel_rfl) (by kernel_rfl) (by kernel_rfl) B1 (fun _ _ => by kernel_rfl) ?_
    refine held_free 30 (.bool false) rfl (by kernel_rfl) (by kernel_rfl) (by kernel_rfl) (by kernel_rfl) B1 (fun _ _ => by kernel_rfl) ?_
    refine held_pass 31 rfl (by kernel_rfl) (by kernel_rfl) (by kernel_rfl) (by kernel_rfl) B1 ?_
    refine held_pass 32 rfl (by kernel_rfl) (by kernel_rfl) (by kernel_rfl) (by kernel_rfl) B1 ?_
    refine held_pass 33 rfl (by kernel_rfl) (by kernel_rfl) (by kernel_rfl) (by kernel_rfl) B1 ?_
    refine held_free 34 (.bool false) rfl (by kernel_rfl) (by kernel_rfl) (by kernel_rfl) (by kernel_rfl) B1 (fun _ _ => by kernel_rfl) ?_
    refine held_free 35 (.bool false) rfl (by kernel_rfl) (by kernel_rfl) (by kernel_rfl) (by kernel_rfl) B1 (fun _ _ => by kernel_rfl) ?_
    refine held_pass 36 rfl (by kernel_rfl) (by kernel_rfl) (by kernel_rfl) (by kernel_rfl) B1 ?_
    refine held_pass 37 rfl (by kernel_rfl) (by kernel_rfl) (by kernel_rfl) (by kernel_rfl) B1 ?_
    refine held_pass 38 rfl (by kernel_rfl) (by kernel_rfl) (by kernel_rfl) (by kernel_rfl) B1 ?_
    refine held_free 39 (.bool false) rfl (by kernel_rfl) (by kernel_rfl) (by kernel_rfl) (by kernel_rfl) B1 (fun _ _ => by kernel_rfl) ?_
    refine held_free 40 (.bool false) rfl (by kernel_rfl) (by kernel_rfl) (by kernel_rfl) (by kernel_rfl) B1 (fun _ _ => by kernel_rfl) ?_
    refine held_end (by kernel_rfl) ?_
    go_wp2_with fail
    rw [HMM.out]
    exact ret_slot 2 (.bool false) (by kernel_rfl) (by kernel_rfl) (by kernel_rfl) ⟨rfl, by have q := HBV.out.trans (B1.mono HBV.out.size); first | exact q | (rw [HB0.out]; exact q)⟩
set_option maxHeartbeats 1000000 in
set_option maxRecDepth 100000 in
theorem mayR_ack_true_true (fin : Bool) (ack : Nat) (hm : Bool) (dsn : Nat) (ssn : Nat) (len : Int) (hs : Bool) (sum : Nat) (w : World) :
    Calls Try.prog 23 #[.agg (dsv (⟨fin, true, true, ack, hm, true, dsn, ssn, len, hs, sum⟩ : Ds))] w fun e w' => e = .returned (.bool (decide (Ds.May (⟨fin, true, true, ack, hm, true, dsn, ssn, len, hs, sum⟩ : Ds)))) ∧ Below w.heap.size w w' := by
  obtain ⟨V, hV⟩ : ∃ V, V = w.alloc (.cells (dsv (⟨fin, true, true, ack, hm, true, dsn, ssn, len, hs, sum⟩ : Ds)) 26) := ⟨_, rfl⟩
  obtain ⟨b0, hb0⟩ : ∃ b0, b0 = w.heap.size := ⟨_, rfl⟩
  obtain ⟨M, hM⟩ : ∃ M, M = decide (Ds.May (⟨fin, true, true, ack, hm, true, dsn, ssn, len, hs, sum⟩ : Ds)) := ⟨_, rfl⟩
  rw [← hM]
  have HBV := Lib.hid (show Below w.heap.size w V by rw [hV]; exact (Below.refl _ w).alloc (Nat.le_refl _) _)
  have hx0 : Blk V b0 26 (dsv (⟨fin, true, true, ack, hm, true, dsn, ssn, len, hs, sum⟩ : Ds)) := by rw [hV, hb0]; exact Blk.new _ _ _
  by_cases hbare : Ds.bare (⟨fin, true, true, ack, hm, true, dsn, ssn, len, hs, sum⟩ : Ds) = (⟨fin, true, true, ack, hm, true, dsn, ssn, len, hs, sum⟩ : Ds)
  · by_cases hlo : 0 ≤ len
    · by_cases hhi : len ≤ 65535
      · have H0 := Lib.hid (show deq (⟨fin, true, true, ack, hm, true, dsn, ssn, len, hs, sum⟩ : Ds) (Ds.bare (⟨fin, true, true, ack, hm, true, dsn, ssn, len, hs, sum⟩ : Ds)) = true from (deq_iff _ _).2 hbare.symm)
        have H3 := Lib.hid (show decide ((0 : Int) ≤ len) = true from decide_eq_true hlo)
        have H4 := Lib.hid (show decide (len ≤ 65535) = true from decide_eq_true hhi)
        have HX := Lib.hid hx0
        have HMM := Lib.hid (show M = true from hM.trans (decide_eq_true ⟨.inl rfl, (Ds.bare_iff _).1 hbare, .inl rfl, .inl rfl, hlo, hhi⟩))
        have HB0 := Lib.hid hb0
        have HVE := Lib.hid hV
        clear hx0 hb0 hV hM
        go_enter Try.func23, Try.ntmps23
        go_upto_region 1 with fail
        rw [← HVE.out, ← HB0.out]
        clear HVE
        have B0 : Below V.heap.size V V.drew := (Below.refl _ V).drew
        refine held_start (fun W => Below V.heap.size V W) (by kernel_rfl) (n := 41) rfl ?_
        obtain ⟨W0, hW0⟩ : ∃ W0, W0 = V.drew := ⟨_, rfl⟩
        rw [← hW0] at B0 ⊢
        clear hW0
        refine held_free 0 (.pointer (some ⟨b0, 1, none⟩)) rfl (by kernel_rfl) (by kernel_rfl) (by kernel_rfl) (by kernel_rfl) B0 (fun _ _ => ex_field (v := .pointer (some ⟨b0, 0, none⟩)) 26 (.tmp 1) 1 (by kernel_rfl) (by kernel_rfl) (by kernel_rfl)) ?_
        refine held_free 1 (.bool true) rfl (by kernel_rfl) (by kernel_rfl) (by kernel_rfl) (by kernel_rfl) B0 (fun W b => ex_load 4 (.tmp 3) (by kernel_rfl) ⟨b0, 1, none⟩ (by kernel_rfl) (by kernel_rfl) ((HX.out.below b HX.out.lt).cell 1)) ?_
        refine held_free 2 (.bool true) rfl (by kernel_rfl) (by kernel_rfl) (by kernel_rfl) (by kernel_rfl) B0 (fun _ _ => by kernel_rfl) ?_
        refine held_pass 3 rfl (by kernel_rfl) (by kernel_rfl) (by kernel_rfl) (by kernel_rfl) B0 ?_
        refine held_pass 4 rfl (by kernel_rfl) (by kernel_rfl) (by kernel_rfl) (by kernel_rfl) B0 ?_
        refine held_free 5 (.bool true) rfl (by kernel_rfl) (by kernel_rfl) (by kernel_rfl) (by kernel_rfl) B0 (fun _ _ => by kernel_rfl) ?_
        refine held_free 6 (.bool true) rfl (by kernel_rfl) (by kernel_rfl) (by kernel_rfl) (by kernel_rfl) B0 (fun _ _ => by kernel_rfl) ?_
        refine held_free 7 (.agg (dsv (⟨fin, true, true, ack, hm, true, dsn, ssn, len, hs, sum⟩ : Ds))) rfl (by kernel_rfl) (by kernel_rfl) (by kernel_rfl) (by kernel_rfl) B0 (fun W b => exec_row_ 26 (.tmp 1) (by kernel_rfl) b0 (by kernel_rfl) 26 _ (0, 0) _ (HX.out.below b HX.out.lt) Try.underlying26 rfl ds_size) ?_
        refine held_free 8 (.agg (dsv (⟨fin, true, true, ack, hm, true, dsn, ssn, len, hs, sum⟩ : Ds))) rfl (by kernel_rfl) (by kernel_rfl) (by kernel_rfl) (by kernel_rfl) B0 (fun W b => exec_row_ 26 (.tmp 1) (by kernel_rfl) b0 (by kernel_rfl) 26 _ (0, 0) _ (HX.out.below b HX.out.lt) Try.underlying26 rfl ds_size) ?_
        refine held_call 9 rfl (by kernel_rfl) (by kernel_rfl) (by kernel_rfl) (bareR_any (⟨fin, true, true, ack, hm, true, dsn, ssn, len, hs, sum⟩ : Ds) _) (fun w' h => bel_in B0 h) ?_
        intro W1 hW1
        have B1 := bel_in B0 hW1
        clear hW1 B0
        refine held_free 10 (.bool true) rfl (by kernel_rfl) (by kernel_rfl) (by kernel_rfl) (by kernel_rfl) B1 (fun W b => ex_aggeq 26 26 (.tmp 10) (.tmp 12) (by kernel_rfl) ((dsv (⟨fin, true, true, ack, hm, true, dsn, ssn, len, hs, sum⟩ : Ds))) ((dsv (Ds.bare (⟨fin, true, true, ack, hm, true, dsn, ssn, len, hs, sum⟩ : Ds)))) (by kernel_rfl) (by kernel_rfl) (by kernel_rfl) true (ds_equal_b _ _ true H0.out W)) ?_
        refine held_free 11 (.bool true) rfl (by kernel_rfl) (by kernel_rfl) (by kernel_rfl) (by kernel_rfl) B1 (fun _ _ => by kernel_rfl) ?_
        refine held_free 12 (.bool true) rfl (by kernel_rfl) (by kernel_rfl) (by kernel_rfl) (by kernel_rfl) B1 (fun _ _ => by kernel_rfl) ?_
        refine held_free 13 (.pointer (some ⟨b0, 2, none⟩)) rfl (by kernel_rfl) (by kernel_rfl) (by kernel_rfl) (by kernel_rfl) B1 (fun _ _ => ex_field (v := .pointer (some ⟨b0, 0, none⟩)) 26 (.tmp 1) 2 (by kernel_rfl) (by kernel_rfl) (by kernel_rfl)) ?_
        refine held_free 14 (.bool true) rfl (by kernel_rfl) (by kernel_rfl) (by kernel_rfl) (by kernel_rfl) B1 (fun W b => ex_load 4 (.tmp 16) (by kernel_rfl) ⟨b0, 2, none⟩ (by kernel_rfl) (by kernel_rfl) ((HX.out.below b HX.out.lt).cell 2)) ?_
        refine held_free 15 (.bool true) rfl (by kernel_rfl) (by kernel_rfl) (by kernel_rfl) (by kernel_rfl) B1 (fun _ _ => by kernel_rfl) ?_
        refine held_pass 16 rfl (by kernel_rfl) (by kernel_rfl) (by kernel_rfl) (by kernel_rfl) B1 ?_
        refine held_pass 17 rfl (by kernel_rfl) (by kernel_rfl) (by kernel_rfl) (by kernel_rfl) B1 ?_
        refine held_pass 18 rfl (by kernel_rfl) (by kernel_rfl) (by kernel_rfl) (by kernel_rfl) B1 ?_
        refine held_free 19 (.bool true) rfl (by kernel_rfl) (by kernel_rfl) (by kernel_rfl) (by kernel_rfl) B1 (fun _ _ => by kernel_rfl) ?_
        refine held_free 20 (.bool true) rfl (by kernel_rfl) (by kernel_rfl) (by kernel_rfl) (by kernel_rfl) B1 (fun _ _ => by kernel_rfl) ?_
        refine held_free 21 (.bool true) rfl (by kernel_rfl) (by kernel_rfl) (by kernel_rfl) (by kernel_rfl) B1 (fun _ _ => by kernel_rfl) ?_
        refine held_free 22 (.pointer (some ⟨b0, 5, none⟩)) rfl (by kernel_rfl) (by kernel_rfl) (by kernel_rfl) (by kernel_rfl) B1 (fun _ _ => ex_field (v := .pointer (some ⟨b0, 0, none⟩)) 26 (.tmp 1) 5 (by kernel_rfl) (by kernel_rfl) (by kernel_rfl)) ?_
        refine held_free 23 (.bool true) rfl (by kernel_rfl) (by kernel_rfl) (by kernel_rfl) (by kernel_rfl) B1 (fun W b => ex_load 4 (.tmp 25) (by kernel_rfl) ⟨b0, 5, none⟩ (by kernel_rfl) (by kernel_rfl) ((HX.out.below b HX.out.lt).cell 5)) ?_
        refine held_free 24 (.bool true) rfl (by kernel_rfl) (by kernel_rfl) (by kernel_rfl) (by kernel_rfl) B1 (fun _ _ => by kernel_rfl) ?_
        refine held_pass 25 rfl (by kernel_rfl) (by kernel_rfl) (by kernel_rfl) (by kernel_rfl) B1 ?_
        refine held_pass 26 rfl (by kernel_rfl) (by kernel_rfl) (by kernel_rfl) (by kernel_rfl) B1 ?_
        refine held_pass 27 rfl (by kernel_rfl) (by kernel_rfl) (by kernel_rfl) (by kernel_rfl) B1 ?_
        refine held_free 28 (.bool true) rfl (by kernel_rfl) (by kernel_rfl) (by kernel_rfl) (by kernel_rfl) B1 (fun _ _ => by kernel_rfl) ?_
        refine held_free 29 (.bool true) rfl (by kernel_rfl) (by kernel_rfl) (by kernel_rfl) (by kernel_rfl) B1 (fun _ _ => by kernel_rfl) ?_
        refine held_free 30 (.bool true) rfl (by kernel_rfl) (by kernel_rfl) (by kernel_rfl) (by kernel_rfl) B1 (fun _ _ => by kernel_rfl) ?_
        refine held_free 31 (.pointer (some ⟨b0, 8, none⟩)) rfl (by kernel_rfl) (by kernel_rfl) (by kernel_rfl) (by kernel_rfl) B1 (fun _ _ => ex_field (v := .pointer (some ⟨b0, 0, none⟩)) 26 (.tmp 1) 8 (by kernel_rfl) (by kernel_rfl) (by kernel_rfl)) ?_
        refine held_free 32 (.int .i64 len) rfl (by kernel_rfl) (by kernel_rfl) (by kernel_rfl) (by kernel_rfl) B1 (fun W b => ex_load 3 (.tmp 34) (by kernel_rfl) ⟨b0, 8, none⟩ (by kernel_rfl) (by kernel_rfl) ((HX.out.below b HX.out.lt).cell 8)) ?_
        refine held_free 33 (.bool true) rfl (by kernel_rfl) (by kernel_rfl) (by kernel_rfl) (by kernel_rfl) B1 (fun _ _ => ex_intgeb .i64 3 3 (.tmp 35) (.const (.int .i64 0)) (by kernel_rfl) (len) (0) (by kernel_rfl) (by kernel_rfl) (by kernel_rfl) true (H3.out)) ?_
        refine held_free 34 (.bool true) rfl (by kernel_rfl) (by kernel_rfl) (by kernel_rfl) (by kernel_rfl) B1 (fun _ _ => by kernel_rfl) ?_
        refine held_free 35 (.bool true) rfl (by kernel_rfl) (by kernel_rfl) (by kernel_rfl) (by kernel_rfl) B1 (fun _ _ => by kernel_rfl) ?_
        refine held_free 36 (.pointer (some ⟨b0, 8, none⟩)) rfl (by kernel_rfl) (by kernel_rfl) (by kernel_rfl) (by kernel_rfl) B1 (fun _ _ => ex_field (v := .pointer (some ⟨b0, 0, none⟩)) 26 (.tmp 1) 8 (by kernel_rfl) (by kernel_rfl) (by kernel_rfl)) ?_
        refine held_free 37 (.int .i64 len) rfl (by kernel_rfl) (by kernel_rfl) (by kernel_rfl) (by kernel_rfl) B1 (fun W b => ex_load 3 (.tmp 39) (by kernel_rfl) ⟨b0, 8, none⟩ (by kernel_rfl) (by kernel_rfl) ((HX.out.below b HX.out.lt).cell 8)) ?_
        refine held_free 38 (.bool true) rfl (by kernel_rfl) (by kernel_rfl) (by kernel_rfl) (by kernel_rfl) B1 (fun _ _ => ex_intleb .i64 3 3 (.tmp 40) (.const (.int .i64 65535)) (by kernel_rfl) (len) (65535) (by kernel_rfl) (by kernel_rfl) (by kernel_rfl) true (H4.out)) ?_
        refine held_free 39 (.bool true) rfl (by kernel_rfl) (by kernel_rfl) (by kernel_rfl) (by kernel_rfl) B1 (fun _ _ => by kernel_rfl) ?_
        refine held_free 40 (.bool true) rfl (by kernel_rfl) (by kernel_rfl) (by kernel_rfl) (by kernel_rfl) B1 (fun _ _ => by kernel_rfl) ?_
        refine held_end (by kernel_rfl) ?_
        go_wp2_with fail
        rw [HMM.out]
        exact ret_slot 2 (.bool true) (by kernel_rfl) (by kernel_rfl) (by kernel_rfl) ⟨rfl, by have q := HBV.out.trans (B1.mono HBV.out.size); first | exact q | (rw [HB0.out]; exact q)⟩
      · have H0 := Lib.hid (show deq (⟨fin, true, true, ack, hm, true, dsn, ssn, len, hs, sum⟩ : Ds) (Ds.bare (⟨fin, true, true, ack, hm, true, dsn, ssn, len, hs, sum⟩ : Ds)) = true from (deq_iff _ _).2 hbare.symm)
        have H3 := Lib.hid (show decide ((0 : Int) ≤ len) = true from decide_eq_true hlo)
        have H4 := Lib.hid (show decide (len ≤ 65535) = false from decide_eq_false hhi)
        have HX := Lib.hid hx0
        have HMM := Lib.hid (show M = false from hM.trans (decide_eq_false fun m => hhi m.2.2.2.2.2))
        have HB0 := Lib.hid hb0
        have HVE := Lib.hid hV
        clear hx0 hb0 hV hM
        go_enter Try.func23, Try.ntmps23
        go_upto_region 1 with fail
        rw [← HVE.out, ← HB0.out]
        clear HVE
        have B0 : Below V.heap.size V V.drew := (Below.refl _ V).drew
        refine held_start (fun W => Below V.heap.size V W) (by kernel_rfl) (n := 41) rfl ?_
        obtain ⟨W0, hW0⟩ : ∃ W0, W0 = V.drew := ⟨_, rfl⟩
        rw [← hW0] at B0 ⊢
        clear hW0
        refine held_free 0 (.pointer (some ⟨b0, 1, none⟩)) rfl (by kernel_rfl) (by kernel_rfl) (by kernel_rfl) (by kernel_rfl) B0 (fun _ _ => ex_field (v := .pointer (some ⟨b0, 0, none⟩)) 26 (.tmp 1) 1 (by kernel_rfl) (by kernel_rfl) (by kernel_rfl)) ?_
        refine held_free 1 (.bool true) rfl (by kernel_rfl) (by kernel_rfl) (by kernel_rfl) (by kernel_rfl) B0 (fun W b => ex_load 4 (.tmp 3) (by kernel_rfl) ⟨b0, 1, none⟩ (by kernel_rfl) (by kernel_rfl) ((HX.out.below b HX.out.lt).cell 1)) ?_
        refine held_free 2 (.bool true) rfl (by kernel_rfl) (by kernel_rfl) (by kernel_rfl) (by kernel_rfl) B0 (fun _ _ => by kernel_rfl) ?_
        refine held_pass 3 rfl (by kernel_rfl) (by kernel_rfl) (by kernel_rfl) (by kernel_rfl) B0 ?_
        refine held_pass 4 rfl (by kernel_rfl) (by kernel_rfl) (by kernel_rfl) (by kernel_rfl) B0 ?_
        refine held_free 5 (.bool true) rfl (by kernel_rfl) (by kernel_rfl) (by kernel_rfl) (by kernel_rfl) B0 (fun _ _ => by kernel_rfl) ?_
        refine held_free 6 (.bool true) rfl (by kernel_rfl) (by kernel_rfl) (by kernel_rfl) (by kernel_rfl) B0 (fun _ _ => by kernel_rfl) ?_
        refine held_free 7 (.agg (dsv (⟨fin, true, true, ack, hm, true, dsn, ssn, len, hs, sum⟩ : Ds))) rfl (by kernel_rfl) (by kernel_rfl) (by kernel_rfl) (by kernel_rfl) B0 (fun W b => exec_row_ 26 (.tmp 1) (by kernel_rfl) b0 (by kernel_rfl) 26 _ (0, 0) _ (HX.out.below b HX.out.lt) Try.underlying26 rfl ds_size) ?_
        refine held_free 8 (.agg (dsv (⟨fin, true, true, ack, hm, true, dsn, ssn, len, hs, sum⟩ : Ds))) rfl (by kernel_rfl) (by kernel_rfl) (by kernel_rfl) (by kernel_rfl) B0 (fun W b => exec_row_ 26 (.tmp 1) (by kernel_rfl) b0 (by kernel_rfl) 26 _ (0, 0) _ (HX.out.below b HX.out.lt) Try.underlying26 rfl ds_size) ?_
        refine held_call 9 rfl (by kernel_rfl) (by kernel_rfl) (by kernel_rfl) (bareR_any (⟨fin, true, true, ack, hm, true, dsn, ssn, len, hs, sum⟩ : Ds) _) (fun w' h => bel_in B0 h) ?_
        intro W1 hW1
        have B1 := bel_in B0 hW1
        clear hW1 B0
        refine held_free 10 (.bool true) rfl (by kernel_rfl) (by kernel_rfl) (by kernel_rfl) (by kernel_rfl) B1 (fun W b => ex_aggeq 26 26 (.tmp 10) (.tmp 12) (by kernel_rfl) ((dsv (⟨fin, true, true, ack, hm, true, dsn, ssn, len, hs, sum⟩ : Ds))) ((dsv (Ds.bare (⟨fin, true, true, ack, hm, true, dsn, ssn, len, hs, sum⟩ : Ds)))) (by kernel_rfl) (by kernel_rfl) (by kernel_rfl) true (ds_equal_b _ _ true H0.out W)) ?_
        refine held_free 11 (.bool true) rfl (by kernel_rfl) (by kernel_rfl) (by kernel_rfl) (by kernel_rfl) B1 (fun _ _ => by kernel_rfl) ?_
        refine held_free 12 (.bool true) rfl (by kernel_rfl) (by kernel_rfl) (by kernel_rfl) (by kernel_rfl) B1 (fun _ _ => by kernel_rfl) ?_
        refine held_free 13 (.pointer (some ⟨b0, 2, none⟩)) rfl (by kernel_rfl) (by kernel_rfl) (by kernel_rfl) (by kernel_rfl) B1 (fun _ _ => ex_field (v := .pointer (some ⟨b0, 0, none⟩)) 26 (.tmp 1) 2 (by kernel_rfl) (by kernel_rfl) (by kernel_rfl)) ?_
        refine held_free 14 (.bool true) rfl (by kernel_rfl) (by kernel_rfl) (by kernel_rfl) (by kernel_rfl) B1 (fun W b => ex_load 4 (.tmp 16) (by kernel_rfl) ⟨b0, 2, none⟩ (by kernel_rfl) (by kernel_rfl) ((HX.out.below b HX.out.lt).cell 2)) ?_
        refine held_free 15 (.bool true) rfl (by kernel_rfl) (by kernel_rfl) (by kernel_rfl) (by kernel_rfl) B1 (fun _ _ => by kernel_rfl) ?_
        refine held_pass 16 rfl (by kernel_rfl) (by kernel_rfl) (by kernel_rfl) (by kernel_rfl) B1 ?_
        refine held_pass 17 rfl (by kernel_rfl) (by kernel_rfl) (by kernel_rfl) (by kernel_rfl) B1 ?_
        refine held_pass 18 rfl (by kernel_rfl) (by kernel_rfl) (by kernel_rfl) (by kernel_rfl) B1 ?_
        refine held_free 19 (.bool true) rfl (by kernel_rfl) (by kernel_rfl) (by kernel_rfl) (by kernel_rfl) B1 (fun _ _ => by kernel_rfl) ?_
        refine held_free 20 (.bool true) rfl (by kernel_rfl) (by kernel_rfl) (by kernel_rfl) (by kernel_rfl) B1 (fun _ _ => by kernel_rfl) ?_
        refine held_free 21 (.bool true) rfl (by kernel_rfl) (by kernel_rfl) (by kernel_rfl) (by kernel_rfl) B1 (fun _ _ => by kernel_rfl) ?_
        refine held_free 22 (.pointer (some ⟨b0, 5, none⟩)) rfl (by kernel_rfl) (by kernel_rfl) (by kernel_rfl) (by kernel_rfl) B1 (fun _ _ => ex_field (v := .pointer (some ⟨b0, 0, none⟩)) 26 (.tmp 1) 5 (by kernel_rfl) (by kernel_rfl) (by kernel_rfl)) ?_
        refine held_free 23 (.bool true) rfl (by kernel_rfl) (by kernel_rfl) (by kernel_rfl) (by kernel_rfl) B1 (fun W b => ex_load 4 (.tmp 25) (by kernel_rfl) ⟨b0, 5, none⟩ (by kernel_rfl) (by kernel_rfl) ((HX.out.below b HX.out.lt).cell 5)) ?_
        refine held_free 24 (.bool true) rfl (by kernel_rfl) (by kernel_rfl) (by kernel_rfl) (by kernel_rfl) B1 (fun _ _ => by kernel_rfl) ?_
        refine held_pass 25 rfl (by kernel_rfl) (by kernel_rfl) (by kernel_rfl) (by kernel_rfl) B1 ?_
        refine held_pass 26 rfl (by kernel_rfl) (by kernel_rfl) (by kernel_rfl) (by kernel_rfl) B1 ?_
        refine held_pass 27 rfl (by kernel_rfl) (by kernel_rfl) (by kernel_rfl) (by kernel_rfl) B1 ?_
        refine held_free 28 (.bool true) rfl (by kernel_rfl) (by kernel_rfl) (by kernel_rfl) (by kernel_rfl) B1 (fun _ _ => by kernel_rfl) ?_
        refine held_free 29 (.bool true) rfl (by kernel_rfl) (by kernel_rfl) (by kernel_rfl) (by kernel_rfl) B1 (fun _ _ => by kernel_rfl) ?_
        refine held_free 30 (.bool true) rfl (by kernel_rfl) (by kernel_rfl) (by kernel_rfl) (by kernel_rfl) B1 (fun _ _ => by kernel_rfl) ?_
        refine held_free 31 (.pointer (some ⟨b0, 8, none⟩)) rfl (by kernel_rfl) (by kernel_rfl) (by kernel_rfl) (by kernel_rfl) B1 (fun _ _ => ex_field (v := .pointer (some ⟨b0, 0, none⟩)) 26 (.tmp 1) 8 (by kernel_rfl) (by kernel_rfl) (by kernel_rfl)) ?_
        refine held_free 32 (.int .i64 len) rfl (by kernel_rfl) (by kernel_rfl) (by kernel_rfl) (by kernel_rfl) B1 (fun W b => ex_load 3 (.tmp 34) (by kernel_rfl) ⟨b0, 8, none⟩ (by kernel_rfl) (by kernel_rfl) ((HX.out.below b HX.out.lt).cell 8)) ?_
        refine held_free 33 (.bool true) rfl (by kernel_rfl) (by kernel_rfl) (by kernel_rfl) (by kernel_rfl) B1 (fun _ _ => ex_intgeb .i64 3 3 (.tmp 35) (.const (.int .i64 0)) (by kernel_rfl) (len) (0) (by kernel_rfl) (by kernel_rfl) (by kernel_rfl) true (H3.out)) ?_
        refine held_free 34 (.bool true) rfl (by kernel_rfl) (by kernel_rfl) (by kernel_rfl) (by kernel_rfl) B1 (fun _ _ => by kernel_rfl) ?_
        refine held_free 35 (.bool true) rfl (by kernel_rfl) (by kernel_rfl) (by kernel_rfl) (by kernel_rfl) B1 (fun _ _ => by kernel_rfl) ?_
        refine held_free 36 (.pointer (some ⟨b0, 8, none⟩)) rfl (by kernel_rfl) (by kernel_rfl) (by kernel_rfl) (by kernel_rfl) B1 (fun _ _ => ex_field (v := .pointer (some ⟨b0, 0, none⟩)) 26 (.tmp 1) 8 (by kernel_rfl) (by kernel_rfl) (by kernel_rfl)) ?_
        refine held_free 37 (.int .i64 len) rfl (by kernel_rfl) (by kernel_rfl) (by kernel_rfl) (by kernel_rfl) B1 (fun W b => ex_load 3 (.tmp 39) (by kernel_rfl) ⟨b0, 8, none⟩ (by kernel_rfl) (by kernel_rfl) ((HX.out.below b HX.out.lt).cell 8)) ?_
        refine held_free 38 (.bool false) rfl (by kernel_rfl) (by kernel_rfl) (by kernel_rfl) (by kernel_rfl) B1 (fun _ _ => ex_intleb .i64 3 3 (.tmp 40) (.const (.int .i64 65535)) (by kernel_rfl) (len) (65535) (by kernel_rfl) (by kernel_rfl) (by kernel_rfl) false (H4.out)) ?_
        refine held_free 39 (.bool false) rfl (by kernel_rfl) (by kernel_rfl) (by kernel_rfl) (by kernel_rfl) B1 (fun _ _ => by kernel_rfl) ?_
        refine held_free 40 (.bool false) rfl (by kernel_rfl) (by kernel_rfl) (by kernel_rfl) (by kernel_rfl) B1 (fun _ _ => by kernel_rfl) ?_
        refine held_end (by kernel_rfl) ?_
        go_wp2_with fail
        rw [HMM.out]
        exact ret_slot 2 (.bool false) (by kernel_rfl) (by kernel_rfl) (by kernel_rfl) ⟨rfl, by have q := HBV.out.trans (B1.mono HBV.out.size); first | exact q | (rw [HB0.out]; exact q)⟩
    · have H0 := Lib.hid (show deq (⟨fin, true, true, ack, hm, true, dsn, ssn, len, hs, sum⟩ : Ds) (Ds.bare (⟨fin, true, true, ack, hm, true, dsn, ssn, len, hs, sum⟩ : Ds)) = true from (deq_iff _ _).2 hbare.symm)
      have H3 := Lib.hid (show decide ((0 : Int) ≤ len) = false from decide_eq_false hlo)
      have HX := Lib.hid hx0
      have HMM := Lib.hid (show M = false from hM.trans (decide_eq_false fun m => hlo m.2.2.2.2.1))
      have HB0 := Lib.hid hb0
      have HVE := Lib.hid hV
      clear hx0 hb0 hV hM
      go_enter Try.func23, Try.ntmps23
      go_upto_region 1 with fail
      rw [← HVE.out, ← HB0.out]
      clear HVE
      have B0 : Below V.heap.size V V.drew := (Below.refl _ V).drew
      refine held_start (fun W => Below V.heap.size V W) (by kernel_rfl) (n := 41) rfl ?_
      obtain ⟨W0, hW0⟩ : ∃ W0, W0 = V.drew := ⟨_, rfl⟩
      rw [← hW0] at B0 ⊢
      clear hW0
      refine held_free 0 (.pointer (some ⟨b0, 1, none⟩)) rfl (by kernel_rfl) (by kernel_rfl) (by kernel_rfl) (by kernel_rfl) B0 (fun _ _ => ex_field (v := .pointer (some ⟨b0, 0, none⟩)) 26 (.tmp 1) 1 (by kernel_rfl) (by kernel_rfl) (by kernel_rfl)) ?_
      refine held_free 1 (.bool true) rfl (by kernel_rfl) (by kernel_rfl) (by kernel_rfl) (by kernel_rfl) B0 (fun W b => ex_load 4 (.tmp 3) (by kernel_rfl) ⟨b0, 1, none⟩ (by kernel_rfl) (by kernel_rfl) ((HX.out.below b HX.out.lt).cell 1)) ?_
      refine held_free 2 (.bool true) rfl (by kernel_rfl) (by kernel_rfl) (by kernel_rfl) (by kernel_rfl) B0 (fun _ _ => by kernel_rfl) ?_
      refine held_pass 3 rfl (by kernel_rfl) (by kernel_rfl) (by kernel_rfl) (by kernel_rfl) B0 ?_
      refine held_pass 4 rfl (by kernel_rfl) (by kernel_rfl) (by kernel_rfl) (by kernel_rfl) B0 ?_
      refine held_free 5 (.bool true) rfl (by kernel_rfl) (by kernel_rfl) (by kernel_rfl) (by kernel_rfl) B0 (fun _ _ => by kernel_rfl) ?_
      refine held_free 6 (.bool true) rfl (by kernel_rfl) (by kernel_rfl) (by kernel_rfl) (by kernel_rfl) B0 (fun _ _ => by kernel_rfl) ?_
      refine held_free 7 (.agg (dsv (⟨fin, true, true, ack, hm, true, dsn, ssn, len, hs, sum⟩ : Ds))) rfl (by kernel_rfl) (by kernel_rfl) (by kernel_rfl) (by kernel_rfl) B0 (fun W b => exec_row_ 26 (.tmp 1) (by kernel_rfl) b0 (by kernel_rfl) 26 _ (0, 0) _ (HX.out.below b HX.out.lt) Try.underlying26 rfl ds_size) ?_
      refine held_free 8 (.agg (dsv (⟨fin, true, true, ack, hm, true, dsn, ssn, len, hs, sum⟩ : Ds))) rfl (by kernel_rfl) (by kernel_rfl) (by kernel_rfl) (by kernel_rfl) B0 (fun W b => exec_row_ 26 (.tmp 1) (by kernel_rfl) b0 (by kernel_rfl) 26 _ (0, 0) _ (HX.out.below b HX.out.lt) Try.underlying26 rfl ds_size) ?_
      refine held_call 9 rfl (by kernel_rfl) (by kernel_rfl) (by kernel_rfl) (bareR_any (⟨fin, true, true, ack, hm, true, dsn, ssn, len, hs, sum⟩ : Ds) _) (fun w' h => bel_in B0 h) ?_
      intro W1 hW1
      have B1 := bel_in B0 hW1
      clear hW1 B0
      refine held_free 10 (.bool true) rfl (by kernel_rfl) (by kernel_rfl) (by kernel_rfl) (by kernel_rfl) B1 (fun W b => ex_aggeq 26 26 (.tmp 10) (.tmp 12) (by kernel_rfl) ((dsv (⟨fin, true, true, ack, hm, true, dsn, ssn, len, hs, sum⟩ : Ds))) ((dsv (Ds.bare (⟨fin, true, true, ack, hm, true, dsn, ssn, len, hs, sum⟩ : Ds)))) (by kernel_rfl) (by kernel_rfl) (by kernel_rfl) true (ds_equal_b _ _ true H0.out W)) ?_
      refine held_free 11 (.bool true) rfl (by kernel_rfl) (by kernel_rfl) (by kernel_rfl) (by kernel_rfl) B1 (fun _ _ => by kernel_rfl) ?_
      refine held_free 12 (.bool true) rfl (by kernel_rfl) (by kernel_rfl) (by kernel_rfl) (by kernel_rfl) B1 (fun _ _ => by kernel_rfl) ?_
      refine held_free 13 (.pointer (some ⟨b0, 2, none⟩)) rfl (by kernel_rfl) (by kernel_rfl) (by kernel_rfl) (by kernel_rfl) B1 (fun _ _ => ex_field (v := .pointer (some ⟨b0, 0, none⟩)) 26 (.tmp 1) 2 (by kernel_rfl) (by kernel_rfl) (by kernel_rfl)) ?_
      refine held_free 14 (.bool true) rfl (by kernel_rfl) (by kernel_rfl) (by kernel_rfl) (by kernel_rfl) B1 (fun W b => ex_load 4 (.tmp 16) (by kernel_rfl) ⟨b0, 2, none⟩ (by kernel_rfl) (by kernel_rfl) ((HX.out.below b HX.out.lt).cell 2)) ?_
      refine held_free 15 (.bool true) rfl (by kernel_rfl) (by kernel_rfl) (by kernel_rfl) (by kernel_rfl) B1 (fun _ _ => by kernel_rfl) ?_
      refine held_pass 16 rfl (by kernel_rfl) (by kernel_rfl) (by kernel_rfl) (by kernel_rfl) B1 ?_
      refine held_pass 17 rfl (by kernel_rfl) (by kernel_rfl) (by kernel_rfl) (by kernel_rfl) B1 ?_
      refine held_pass 18 rfl (by kernel_rfl) (by kernel_rfl) (by kernel_rfl) (by kernel_rfl) B1 ?_
      refine held_free 19 (.bool true) rfl (by kernel_rfl) (by kernel_rfl) (by kernel_rfl) (by kernel_rfl) B1 (fun _ _ => by kernel_rfl) ?_
      refine held_free 20 (.bool true) rfl (by kernel_rfl) (by kernel_rfl) (by kernel_rfl) (by kernel_rfl) B1 (fun _ _ => by kernel_rfl) ?_
      refine held_free 21 (.bool true) rfl (by kernel_rfl) (by kernel_rfl) (by kernel_rfl) (by kernel_rfl) B1 (fun _ _ => by kernel_rfl) ?_
      refine held_free 22 (.pointer (some ⟨b0, 5, none⟩)) rfl (by kernel_rfl) (by kernel_rfl) (by kernel_rfl) (by kernel_rfl) B1 (fun _ _ => ex_field (v := .pointer (some ⟨b0, 0, none⟩)) 26 (.tmp 1) 5 (by kernel_rfl) (by kernel_rfl) (by kernel_rfl)) ?_
      refine held_free 23 (.bool true) rfl (by kernel_rfl) (by kernel_rfl) (by kernel_rfl) (by kernel_rfl) B1 (fun W b => ex_load 4 (.tmp 25) (by kernel_rfl) ⟨b0, 5, none⟩ (by kernel_rfl) (by kernel_rfl) ((HX.out.below b HX.out.lt).cell 5)) ?_
      refine held_free 24 (.bool true) rfl (by kernel_rfl) (by kernel_rfl) (by kernel_rfl) (by kernel_rfl) B1 (fun _ _ => by kernel_rfl) ?_
      refine held_pass 25 rfl (by kernel_rfl) (by kernel_rfl) (by kernel_rfl) (by kernel_rfl) B1 ?_
      refine held_pass 26 rfl (by kernel_rfl) (by kernel_rfl) (by kernel_rfl) (by kernel_rfl) B1 ?_
      refine held_pass 27 rfl (by kernel_rfl) (by kernel_rfl) (by kernel_rfl) (by kernel_rfl) B1 ?_
      refine held_free 28 (.bool true) rfl (by kernel_rfl) (by kernel_rfl) (by kernel_rfl) (by kernel_rfl) B1 (fun _ _ => by kernel_rfl) ?_
      refine held_free 29 (.bool true) rfl (by kernel_rfl) (by kernel_rfl) (by kernel_rfl) (by kernel_rfl) B1 (fun _ _ => by kernel_rfl) ?_
      refine held_free 30 (.bool true) rfl (by kernel_rfl) (by kernel_rfl) (by kernel_rfl) (by kernel_rfl) B1 (fun _ _ => by kernel_rfl) ?_
      refine held_free 31 (.pointer (some ⟨b0, 8, none⟩)) rfl (by kernel_rfl) (by kernel_rfl) (by kernel_rfl) (by kernel_rfl) B1 (fun _ _ => ex_field (v := .pointer (some ⟨b0, 0, none⟩)) 26 (.tmp 1) 8 (by kernel_rfl) (by kernel_rfl) (by kernel_rfl)) ?_
      refine held_free 32 (.int .i64 len) rfl (by kernel_rfl) (by kernel_rfl) (by kernel_rfl) (by kernel_rfl) B1 (fun W b => ex_load 3 (.tmp 34) (by kernel_rfl) ⟨b0, 8, none⟩ (by kernel_rfl) (by kernel_rfl) ((HX.out.below b HX.out.lt).cell 8)) ?_
      refine held_free 33 (.bool false) rfl (by kernel_rfl) (by kernel_rfl) (by kernel_rfl) (by kernel_rfl) B1 (fun _ _ => ex_intgeb .i64 3 3 (.tmp 35) (.const (.int .i64 0)) (by kernel_rfl) (len) (0) (by kernel_rfl) (by kernel_rfl) (by kernel_rfl) false (H3.out)) ?_
      refine held_free 34 (.bool false) rfl (by kernel_rfl) (by kernel_rfl) (by kernel_rfl) (by kernel_rfl) B1 (fun _ _ => by kernel_rfl) ?_
      refine held_free 35 (.bool false) rfl (by kernel_rfl) (by kernel_rfl) (by kernel_rfl) (by kernel_rfl) B1 (fun _ _ => by kernel_rfl) ?_
      refine held_pass 36 rfl (by kernel_rfl) (by kernel_rfl) (by kernel_rfl) (by kernel_rfl) B1 ?_
      refine held_pass 37 rfl (by kernel_rfl) (by kernel_rfl) (by kernel_rfl) (by kernel_rfl) B1 ?_
      refine held_pass 38 rfl (by kernel_rfl) (by kernel_rfl) (by kernel_rfl) (by kernel_rfl) B1 ?_
      refine held_free 39 (.bool false) rfl (by kernel_rfl) (by kernel_rfl) (by kernel_rfl) (by kernel_rfl) B1 (fun _ _ => by kernel_rfl) ?_
      refine held_free 40 (.bool false) rfl (by kernel_rfl) (by kernel_rfl) (by kernel_rfl) (by kernel_rfl) B1 (fun _ _ => by kernel_rfl) ?_
      refine held_end (by kernel_rfl) ?_
      go_wp2_with fail
      rw [HMM.out]
      exact ret_slot 2 (.bool false) (by kernel_rfl) (by kernel_rfl) (by kernel_rfl) ⟨rfl, by have q := HBV.out.trans (B1.mono HBV.out.size); first | exact q | (rw [HB0.out]; exact q)⟩
  · have H0 := Lib.hid (show deq (⟨fin, true, true, ack, hm, true, dsn, ssn, len, hs, sum⟩ : Ds) (Ds.bare (⟨fin, true, true, ack, hm, true, dsn, ssn, len, hs, sum⟩ : Ds)) = false from deq_ne fun q => hbare q.symm)
    have HX := Lib.hid hx0
    have HMM := Lib.hid (show M = false from hM.trans (decide_eq_false fun m => hbare ((Ds.bare_iff _).2 m.2.1)))
    have HB0 := Lib.hid hb0
    have HVE := Lib.hid hV
    clear hx0 hb0 hV hM
    go_enter Try.func23, Try.ntmps23
    go_upto_region 1 with fail
    rw [← HVE.out, ← HB0.out]
    clear HVE
    have B0 : Below V.heap.size V V.drew := (Below.refl _ V).drew
    refine held_start (fun W => Below V.heap.size V W) (by kernel_rfl) (n := 41) rfl ?_
    obtain ⟨W0, hW0⟩ : ∃ W0, W0 = V.drew := ⟨_, rfl⟩
    rw [← hW0] at B0 ⊢
    clear hW0
    refine held_free 0 (.pointer (some ⟨b0, 1, none⟩)) rfl (by kernel_rfl) (by kernel_rfl) (by kernel_rfl) (by kernel_rfl) B0 (fun _ _ => ex_field (v := .pointer (some ⟨b0, 0, none⟩)) 26 (.tmp 1) 1 (by kernel_rfl) (by kernel_rfl) (by kernel_rfl)) ?_
    refine held_free 1 (.bool true) rfl (by kernel_rfl) (by kernel_rfl) (by kernel_rfl) (by kernel_rfl) B0 (fun W b => ex_load 4 (.tmp 3) (by kernel_rfl) ⟨b0, 1, none⟩ (by kernel_rfl) (by kernel_rfl) ((HX.out.below b HX.out.lt).cell 1)) ?_
    refine held_free 2 (.bool true) rfl (by kernel_rfl) (by kernel_rfl) (by kernel_rfl) (by kernel_rfl) B0 (fun _ _ => by kernel_rfl) ?_
    refine held_pass 3 rfl (by kernel_rfl) (by kernel_rfl) (by kernel_rfl) (by kernel_rfl) B0 ?_
    refine held_pass 4 rfl (by kernel_rfl) (by kernel_rfl) (by kernel_rfl) (by kernel_rfl) B0 ?_
    refine held_free 5 (.bool true) rfl (by kernel_rfl) (by kernel_rfl) (by kernel_rfl) (by kernel_rfl) B0 (fun _ _ => by kernel_rfl) ?_
    refine held_free 6 (.bool true) rfl (by kernel_rfl) (by kernel_rfl) (by kernel_rfl) (by kernel_rfl) B0 (fun _ _ => by kernel_rfl) ?_
    refine held_free 7 (.agg (dsv (⟨fin, true, true, ack, hm, true, dsn, ssn, len, hs, sum⟩ : Ds))) rfl (by kernel_rfl) (by kernel_rfl) (by kernel_rfl) (by kernel_rfl) B0 (fun W b => exec_row_ 26 (.tmp 1) (by kernel_rfl) b0 (by kernel_rfl) 26 _ (0, 0) _ (HX.out.below b HX.out.lt) Try.underlying26 rfl ds_size) ?_
    refine held_free 8 (.agg (dsv (⟨fin, true, true, ack, hm, true, dsn, ssn, len, hs, sum⟩ : Ds))) rfl (by kernel_rfl) (by kernel_rfl) (by kernel_rfl) (by kernel_rfl) B0 (fun W b => exec_row_ 26 (.tmp 1) (by kernel_rfl) b0 (by kernel_rfl) 26 _ (0, 0) _ (HX.out.below b HX.out.lt) Try.underlying26 rfl ds_size) ?_
    refine held_call 9 rfl (by kernel_rfl) (by kernel_rfl) (by kernel_rfl) (bareR_any (⟨fin, true, true, ack, hm, true, dsn, ssn, len, hs, sum⟩ : Ds) _) (fun w' h => bel_in B0 h) ?_
    intro W1 hW1
    have B1 := bel_in B0 hW1
    clear hW1 B0
    refine held_free 10 (.bool false) rfl (by kernel_rfl) (by kernel_rfl) (by kernel_rfl) (by kernel_rfl) B1 (fun W b => ex_aggeq 26 26 (.tmp 10) (.tmp 12) (by kernel_rfl) ((dsv (⟨fin, true, true, ack, hm, true, dsn, ssn, len, hs, sum⟩ : Ds))) ((dsv (Ds.bare (⟨fin, true, true, ack, hm, true, dsn, ssn, len, hs, sum⟩ : Ds)))) (by kernel_rfl) (by kernel_rfl) (by kernel_rfl) false (ds_equal_b _ _ false H0.out W)) ?_
    refine held_free 11 (.bool false) rfl (by kernel_rfl) (by kernel_rfl) (by kernel_rfl) (by kernel_rfl) B1 (fun _ _ => by kernel_rfl) ?_
    refine held_free 12 (.bool false) rfl (by kernel_rfl) (by kernel_rfl) (by kernel_rfl) (by kernel_rfl) B1 (fun _ _ => by kernel_rfl) ?_
    refine held_pass 13 rfl (by kernel_rfl) (by kernel_rfl) (by kernel_rfl) (by kernel_rfl) B1 ?_
    refine held_pass 14 rfl (by kernel_rfl) (by kernel_rfl) (by kernel_rfl) (by kernel_rfl) B1 ?_
    refine held_pass 15 rfl (by kernel_rfl) (by kernel_rfl) (by kernel_rfl) (by kernel_rfl) B1 ?_
    refine held_pass 16 rfl (by kernel_rfl) (by kernel_rfl) (by kernel_rfl) (by kernel_rfl) B1 ?_
    refine held_pass 17 rfl (by kernel_rfl) (by kernel_rfl) (by kernel_rfl) (by kernel_rfl) B1 ?_
    refine held_pass 18 rfl (by kernel_rfl) (by kernel_rfl) (by kernel_rfl) (by kernel_rfl) B1 ?_
    refine held_pass 19 rfl (by kernel_rfl) (by kernel_rfl) (by kernel_rfl) (by kernel_rfl) B1 ?_
    refine held_free 20 (.bool false) rfl (by kernel_rfl) (by kernel_rfl) (by kernel_rfl) (by kernel_rfl) B1 (fun _ _ => by kernel_rfl) ?_
    refine held_free 21 (.bool false) rfl (by kernel_rfl) (by kernel_rfl) (by kernel_rfl) (by kernel_rfl) B1 (fun _ _ => by kernel_rfl) ?_
    refine held_pass 22 rfl (by kernel_rfl) (by kernel_rfl) (by kernel_rfl) (by kernel_rfl) B1 ?_
    refine held_pass 23 rfl (by kernel_rfl) (by kernel_rfl) (by kernel_rfl) (by kernel_rfl) B1 ?_
    refine held_pass 24 rfl (by kernel_rfl) (by kernel_rfl) (by kernel_rfl) (by kernel_rfl) B1 ?_
    refine held_pass 25 rfl (by kernel_rfl) (by kernel_rfl) (by kernel_rfl) (by kernel_rfl) B1 ?_
    refine held_pass 26 rfl (by kernel_rfl) (by kernel_rfl) (by kernel_rfl) (by kernel_rfl) B1 ?_
    refine held_pass 27 rfl (by kernel_rfl) (by kernel_rfl) (by kernel_rfl) (by kernel_rfl) B1 ?_
    refine held_pass 28 rfl (by kernel_rfl) (by kernel_rfl) (by kernel_rfl) (by kernel_rfl) B1 ?_
    refine held_free 29 (.bool false) rfl (by kernel_rfl) (by kernel_rfl) (by kernel_rfl) (by kernel_rfl) B1 (fun _ _ => by kernel_rfl) ?_
    refine held_free 30 (.bool false) rfl (by kernel_rfl) (by kernel_rfl) (by kernel_rfl) (by kernel_rfl) B1 (fun _ _ => by kernel_rfl) ?_
    refine held_pass 31 rfl (by kernel_rfl) (by kernel_rfl) (by kernel_rfl) (by kernel_rfl) B1 ?_
    refine held_pass 32 rfl (by kernel_rfl) (by kernel_rfl) (by kernel_rfl) (by kernel_rfl) B1 ?_
    refine held_pass 33 rfl (by kernel_rfl) (by kernel_rfl) (by kernel_rfl) (by kernel_rfl) B1 ?_
    refine held_free 34 (.bool false) rfl (by kernel_rfl) (by kernel_rfl) (by kernel_rfl) (by kernel_rfl) B1 (fun _ _ => by kernel_rfl) ?_
    refine held_free 35 (.bool false) rfl (by kernel_rfl) (by kernel_rfl) (by kernel_rfl) (by kernel_rfl) B1 (fun _ _ => by kernel_rfl) ?_
    refine held_pass 36 rfl (by kernel_rfl) (by kernel_rfl) (by kernel_rfl) (by kernel_rfl) B1 ?_
    refine held_pass 37 rfl (by kernel_rfl) (by kernel_rfl) (by kernel_rfl) (by kernel_rfl) B1 ?_
    refine held_pass 38 rfl (by kernel_rfl) (by kernel_rfl) (by kernel_rfl) (by kernel_rfl) B1 ?_
    refine held_free 39 (.bool false) rfl (by kernel_rfl) (by kernel_rfl) (by kernel_rfl) (by kernel_rfl) B1 (fun _ _ => by kernel_rfl) ?_
    refine held_free 40 (.bool false) rfl (by kernel_rfl) (by kernel_rfl) (by kernel_rfl) (by kernel_rfl) B1 (fun _ _ => by kernel_rfl) ?_
    refine held_end (by kernel_rfl) ?_
    go_wp2_with fail
    rw [HMM.out]
    exact ret_slot 2 (.bool false) (by kernel_rfl) (by kernel_rfl) (by kernel_rfl) ⟨rfl, by have q := HBV.out.trans (B1.mono HBV.out.size); first | exact q | (rw [HB0.out]; exact q)⟩
end Go.Proofs.Ytdhkjhkgjfcolaa
