/-
  What valid of package join answers, by its walk: of any option, in every order that its expression's parts may come up.
-/
import Derived.Test.YthnokkcpmikajaaDoorJoinWalks
namespace Go.Proofs.YthnokkcpmikajaaDoor
open Go.ChangeShapes Go.WideShapes Go.ChangeAt Go.RowKit
set_option linter.unusedVariables false

theorem Tbl.below' {V W : World} (h : Tbl V) (b : Below V.heap.size V W) : Tbl W := h.below b
set_option maxHeartbeats 1000000 in
set_option maxRecDepth 100000 in
theorem valid_no (form : Int) (backup : Bool) (id : Int) (token nonce : Nat) (mac : ByteArray) (hx : Jn.Ok ⟨form, backup, id, token, nonce, mac⟩) (w : World) (ht : Tbl w) (h0 : ¬ (0 ≤ form ∧ form < 3)) :
    Calls Tryd.prog 18 #[.agg (jnv ⟨form, backup, id, token, nonce, mac⟩)] w fun e w' => e = .returned (.bool (decide (Jn.May ⟨form, backup, id, token, nonce, mac⟩))) ∧ Below w.heap.size w w' := by
  obtain ⟨V, hV⟩ : ∃ V, V = w.alloc (.cells (jnv ⟨form, backup, id, token, nonce, mac⟩) 24) := ⟨_, rfl⟩
  obtain ⟨b0, hb0⟩ : ∃ b0, b0 = w.heap.size := ⟨_, rfl⟩
  obtain ⟨M, hM⟩ : ∃ M, M = decide (Jn.May ⟨form, backup, id, token, nonce, mac⟩) := ⟨_, rfl⟩
  rw [← hM]
  have htv : Tbl V := by rw [hV]; exact ht.alloc _
  have HT := Lib.hid htv
  have HBV := Lib.hid (show Below w.heap.size w V by rw [hV]; exact (Below.refl _ w).alloc (Nat.le_refl _) _)
  clear ht htv
  have H0 := Lib.hid (decide_eq_false h0)
  have hx0 : Blk V b0 24 (jnv ⟨form, backup, id, token, nonce, mac⟩) := by rw [hV, hb0]; exact Blk.new _ _ _
  have HX := Lib.hid hx0
  have HMM := Lib.hid (show M = false from hM.trans (decide_eq_false fun m => h0 m.1))
  have HB0 := Lib.hid hb0
  have HVE := Lib.hid hV
  clear hx0 hb0 hV hx hM
  go_enter Tryd.func18, Tryd.ntmps18
  go_upto_region 1 with fail
  rw [← HVE.out, ← HB0.out]
  clear HVE
  have B0 : Below V.heap.size V V.drew := (Below.refl _ V).drew
  refine held_start (fun W => Below V.heap.size V W) (by kernel_rfl) (n := 31) rfl ?_
  obtain ⟨W0, hW0⟩ : ∃ W0, W0 = V.drew := ⟨_, rfl⟩
  rw [← hW0] at B0 ⊢
  clear hW0
  refine held_free 0 (.pointer (some ⟨b0, 0, none⟩)) rfl (by kernel_rfl) (by kernel_rfl) (by kernel_rfl) (by kernel_rfl) B0 (fun _ _ => ex_field (v := .pointer (some ⟨b0, 0, none⟩)) 24 (.tmp 1) 0 (by kernel_rfl) (by kernel_rfl) (by kernel_rfl)) ?_
  refine held_free 1 (.int .i64 form) rfl (by kernel_rfl) (by kernel_rfl) (by kernel_rfl) (by kernel_rfl) B0 (fun W b => ex_load 3 (.tmp 3) (by kernel_rfl) ⟨b0, 0, none⟩ (by kernel_rfl) (by kernel_rfl) ((HX.out.below b HX.out.lt).cell 0)) ?_
  refine held_call 2 rfl (by kernel_rfl) (by kernel_rfl) (by kernel_rfl) (known_b (form) false H0.out _) (fun w' h => bel_in B0 h) ?_
  intro W1 hW1
  have B1 := bel_in B0 hW1
  clear hW1 B0
  refine held_free 3 (.bool false) rfl (by kernel_rfl) (by kernel_rfl) (by kernel_rfl) (by kernel_rfl) B1 (fun _ _ => by kernel_rfl) ?_
  refine held_pass 4 rfl (by kernel_rfl) (by kernel_rfl) (by kernel_rfl) (by kernel_rfl) B1 ?_
  refine held_pass 5 rfl (by kernel_rfl) (by kernel_rfl) (by kernel_rfl) (by kernel_rfl) B1 ?_
  refine held_pass 6 rfl (by kernel_rfl) (by kernel_rfl) (by kernel_rfl) (by kernel_rfl) B1 ?_
  refine held_free 7 (.bool false) rfl (by kernel_rfl) (by kernel_rfl) (by kernel_rfl) (by kernel_rfl) B1 (fun _ _ => by kernel_rfl) ?_
  refine held_free 8 (.bool false) rfl (by kernel_rfl) (by kernel_rfl) (by kernel_rfl) (by kernel_rfl) B1 (fun _ _ => by kernel_rfl) ?_
  refine held_pass 9 rfl (by kernel_rfl) (by kernel_rfl) (by kernel_rfl) (by kernel_rfl) B1 ?_
  refine held_pass 10 rfl (by kernel_rfl) (by kernel_rfl) (by kernel_rfl) (by kernel_rfl) B1 ?_
  refine held_pass 11 rfl (by kernel_rfl) (by kernel_rfl) (by kernel_rfl) (by kernel_rfl) B1 ?_
  refine held_free 12 (.bool false) rfl (by kernel_rfl) (by kernel_rfl) (by kernel_rfl) (by kernel_rfl) B1 (fun _ _ => by kernel_rfl) ?_
  refine held_free 13 (.bool false) rfl (by kernel_rfl) (by kernel_rfl) (by kernel_rfl) (by kernel_rfl) B1 (fun _ _ => by kernel_rfl) ?_
  refine held_pass 14 rfl (by kernel_rfl) (by kernel_rfl) (by kernel_rfl) (by kernel_rfl) B1 ?_
  refine held_pass 15 rfl (by kernel_rfl) (by kernel_rfl) (by kernel_rfl) (by kernel_rfl) B1 ?_
  refine held_pass 16 rfl (by kernel_rfl) (by kernel_rfl) (by kernel_rfl) (by kernel_rfl) B1 ?_
  refine held_pass 17 rfl (by kernel_rfl) (by kernel_rfl) (by kernel_rfl) (by kernel_rfl) B1 ?_
  refine held_pass 18 rfl (by kernel_rfl) (by kernel_rfl) (by kernel_rfl) (by kernel_rfl) B1 ?_
  refine held_pass 19 rfl (by kernel_rfl) (by kernel_rfl) (by kernel_rfl) (by kernel_rfl) B1 ?_
  refine held_pass 20 rfl (by kernel_rfl) (by kernel_rfl) (by kernel_rfl) (by kernel_rfl) B1 ?_
  refine held_pass 21 rfl (by kernel_rfl) (by kernel_rfl) (by kernel_rfl) (by kernel_rfl) B1 ?_
  refine held_pass 22 rfl (by kernel_rfl) (by kernel_rfl) (by kernel_rfl) (by kernel_rfl) B1 ?_
  refine held_free 23 (.bool false) rfl (by kernel_rfl) (by kernel_rfl) (by kernel_rfl) (by kernel_rfl) B1 (fun _ _ => by kernel_rfl) ?_
  refine held_free 24 (.bool false) rfl (by kernel_rfl) (by kernel_rfl) (by kernel_rfl) (by kernel_rfl) B1 (fun _ _ => by kernel_rfl) ?_
  refine held_pass 25 rfl (by kernel_rfl) (by kernel_rfl) (by kernel_rfl) (by kernel_rfl) B1 ?_
  refine held_pass 26 rfl (by kernel_rfl) (by kernel_rfl) (by kernel_rfl) (by kernel_rfl) B1 ?_
  refine held_pass 27 rfl (by kernel_rfl) (by kernel_rfl) (by kernel_rfl) (by kernel_rfl) B1 ?_
  refine held_pass 28 rfl (by kernel_rfl) (by kernel_rfl) (by kernel_rfl) (by kernel_rfl) B1 ?_
  refine held_free 29 (.bool false) rfl (by kernel_rfl) (by kernel_rfl) (by kernel_rfl) (by kernel_rfl) B1 (fun _ _ => by kernel_rfl) ?_
  refine held_free 30 (.bool false) rfl (by kernel_rfl) (by kernel_rfl) (by kernel_rfl) (by kernel_rfl) B1 (fun _ _ => by kernel_rfl) ?_
  refine held_end (by kernel_rfl) ?_
  go_wp2_with fail
  rw [HMM.out]
  exact ret_slot 2 (.bool false) (by kernel_rfl) (by kernel_rfl) (by kernel_rfl) ⟨rfl, by have q := HBV.out.trans (B1.mono HBV.out.size); first | exact q | (rw [HB0.out]; exact q)⟩
set_option maxHeartbeats 1000000 in
set_option maxRecDepth 100000 in
theorem valid_low (form : Int) (backup : Bool) (id : Int) (token nonce : Nat) (mac : ByteArray) (hx : Jn.Ok ⟨form, backup, id, token, nonce, mac⟩) (w : World) (ht : Tbl w) (h0 : 0 ≤ form ∧ form < 3) (h1 : ¬ 0 ≤ id) :
    Calls Tryd.prog 18 #[.agg (jnv ⟨form, backup, id, token, nonce, mac⟩)] w fun e w' => e = .returned (.bool (decide (Jn.May ⟨form, backup, id, token, nonce, mac⟩))) ∧ Below w.heap.size w w' := by
  obtain ⟨V, hV⟩ : ∃ V, V = w.alloc (.cells (jnv ⟨form, backup, id, token, nonce, mac⟩) 24) := ⟨_, rfl⟩
  obtain ⟨b0, hb0⟩ : ∃ b0, b0 = w.heap.size := ⟨_, rfl⟩
  obtain ⟨M, hM⟩ : ∃ M, M = decide (Jn.May ⟨form, backup, id, token, nonce, mac⟩) := ⟨_, rfl⟩
  rw [← hM]
  have htv : Tbl V := by rw [hV]; exact ht.alloc _
  have HT := Lib.hid htv
  have HBV := Lib.hid (show Below w.heap.size w V by rw [hV]; exact (Below.refl _ w).alloc (Nat.le_refl _) _)
  clear ht htv
  have H0 := Lib.hid (decide_eq_true h0)
  have H1 := Lib.hid (decide_eq_false h1)
  have hx0 : Blk V b0 24 (jnv ⟨form, backup, id, token, nonce, mac⟩) := by rw [hV, hb0]; exact Blk.new _ _ _
  have HX := Lib.hid hx0
  have HMM := Lib.hid (show M = false from hM.trans (decide_eq_false fun m => h1 m.2.1.1))
  have HB0 := Lib.hid hb0
  have HVE := Lib.hid hV
  clear hx0 hb0 hV hx hM
  go_enter Tryd.func18, Tryd.ntmps18
  go_upto_region 1 with fail
  rw [← HVE.out, ← HB0.out]
  clear HVE
  have B0 : Below V.heap.size V V.drew := (Below.refl _ V).drew
  refine held_start (fun W => Below V.heap.size V W) (by kernel_rfl) (n := 31) rfl ?_
  obtain ⟨W0, hW0⟩ : ∃ W0, W0 = V.drew := ⟨_, rfl⟩
  rw [← hW0] at B0 ⊢
  clear hW0
  refine held_free 0 (.pointer (some ⟨b0, 0, none⟩)) rfl (by kernel_rfl) (by kernel_rfl) (by kernel_rfl) (by kernel_rfl) B0 (fun _ _ => ex_field (v := .pointer (some ⟨b0, 0, none⟩)) 24 (.tmp 1) 0 (by kernel_rfl) (by kernel_rfl) (by kernel_rfl)) ?_
  refine held_free 1 (.int .i64 form) rfl (by kernel_rfl) (by kernel_rfl) (by kernel_rfl) (by kernel_rfl) B0 (fun W b => ex_load 3 (.tmp 3) (by kernel_rfl) ⟨b0, 0, none⟩ (by kernel_rfl) (by kernel_rfl) ((HX.out.below b HX.out.lt).cell 0)) ?_
  refine held_call 2 rfl (by kernel_rfl) (by kernel_rfl) (by kernel_rfl) (known_b (form) true H0.out _) (fun w' h => bel_in B0 h) ?_
  intro W1 hW1
  have B1 := bel_in B0 hW1
  clear hW1 B0
  refine held_free 3 (.bool true) rfl (by kernel_rfl) (by kernel_rfl) (by kernel_rfl) (by kernel_rfl) B1 (fun _ _ => by kernel_rfl) ?_
  refine held_free 4 (.pointer (some ⟨b0, 2, none⟩)) rfl (by kernel_rfl) (by kernel_rfl) (by kernel_rfl) (by kernel_rfl) B1 (fun _ _ => ex_field (v := .pointer (some ⟨b0, 0, none⟩)) 24 (.tmp 1) 2 (by kernel_rfl) (by kernel_rfl) (by kernel_rfl)) ?_
  refine held_free 5 (.int .i64 id) rfl (by kernel_rfl) (by kernel_rfl) (by kernel_rfl) (by kernel_rfl) B1 (fun W b => ex_load 3 (.tmp 7) (by kernel_rfl) ⟨b0, 2, none⟩ (by kernel_rfl) (by kernel_rfl) ((HX.out.below b HX.out.lt).cell 2)) ?_
  refine held_free 6 (.bool false) rfl (by kernel_rfl) (by kernel_rfl) (by kernel_rfl) (by kernel_rfl) B1 (fun _ _ => ex_intleb .i64 3 3 (.const (.int .i64 0)) (.tmp 8) (by kernel_rfl) (0) (id) (by kernel_rfl) (by kernel_rfl) (by kernel_rfl) false (H1.out)) ?_
  refine held_free 7 (.bool false) rfl (by kernel_rfl) (by kernel_rfl) (by kernel_rfl) (by kernel_rfl) B1 (fun _ _ => by kernel_rfl) ?_
  refine held_free 8 (.bool false) rfl (by kernel_rfl) (by kernel_rfl) (by kernel_rfl) (by kernel_rfl) B1 (fun _ _ => by kernel_rfl) ?_
  refine held_pass 9 rfl (by kernel_rfl) (by kernel_rfl) (by kernel_rfl) (by kernel_rfl) B1 ?_
  refine held_pass 10 rfl (by kernel_rfl) (by kernel_rfl) (by kernel_rfl) (by kernel_rfl) B1 ?_
  refine held_pass 11 rfl (by kernel_rfl) (by kernel_rfl) (by kernel_rfl) (by kernel_rfl) B1 ?_
  refine held_free 12 (.bool false) rfl (by kernel_rfl) (by kernel_rfl) (by kernel_rfl) (by kernel_rfl) B1 (fun _ _ => by kernel_rfl) ?_
  refine held_free 13 (.bool false) rfl (by kernel_rfl) (by kernel_rfl) (by kernel_rfl) (by kernel_rfl) B1 (fun _ _ => by kernel_rfl) ?_
  refine held_pass 14 rfl (by kernel_rfl) (by kernel_rfl) (by kernel_rfl) (by kernel_rfl) B1 ?_
  refine held_pass 15 rfl (by kernel_rfl) (by kernel_rfl) (by kernel_rfl) (by kernel_rfl) B1 ?_
  refine held_pass 16 rfl (by kernel_rfl) (by kernel_rfl) (by kernel_rfl) (by kernel_rfl) B1 ?_
  refine held_pass 17 rfl (by kernel_rfl) (by kernel_rfl) (by kernel_rfl) (by kernel_rfl) B1 ?_
  refine held_pass 18 rfl (by kernel_rfl) (by kernel_rfl) (by kernel_rfl) (by kernel_rfl) B1 ?_
  refine held_pass 19 rfl (by kernel_rfl) (by kernel_rfl) (by kernel_rfl) (by kernel_rfl) B1 ?_
  refine held_pass 20 rfl (by kernel_rfl) (by kernel_rfl) (by kernel_rfl) (by kernel_rfl) B1 ?_
  refine held_pass 21 rfl (by kernel_rfl) (by kernel_rfl) (by kernel_rfl) (by kernel_rfl) B1 ?_
  refine held_pass 22 rfl (by kernel_rfl) (by kernel_rfl) (by kernel_rfl) (by kernel_rfl) B1 ?_
  refine held_free 23 (.bool false) rfl (by kernel_rfl) (by kernel_rfl) (by kernel_rfl) (by kernel_rfl) B1 (fun _ _ => by kernel_rfl) ?_
  refine held_free 24 (.bool false) rfl (by kernel_rfl) (by kernel_rfl) (by kernel_rfl) (by kernel_rfl) B1 (fun _ _ => by kernel_rfl) ?_
  refine held_pass 25 rfl (by kernel_rfl) (by kernel_rfl) (by kernel_rfl) (by kernel_rfl) B1 ?_
  refine held_pass 26 rfl (by kernel_rfl) (by kernel_rfl) (by kernel_rfl) (by kernel_rfl) B1 ?_
  refine held_pass 27 rfl (by kernel_rfl) (by kernel_rfl) (by kernel_rfl) (by kernel_rfl) B1 ?_
  refine held_pass 28 rfl (by kernel_rfl) (by kernel_rfl) (by kernel_rfl) (by kernel_rfl) B1 ?_
  refine held_free 29 (.bool false) rfl (by kernel_rfl) (by kernel_rfl) (by kernel_rfl) (by kernel_rfl) B1 (fun _ _ => by kernel_rfl) ?_
  refine held_free 30 (.bool false) rfl (by kernel_rfl) (by kernel_rfl) (by kernel_rfl) (by kernel_rfl) B1 (fun _ _ => by kernel_rfl) ?_
  refine held_end (by kernel_rfl) ?_
  go_wp2_with fail
  rw [HMM.out]
  exact ret_slot 2 (.bool false) (by kernel_rfl) (by kernel_rfl) (by kernel_rfl) ⟨rfl, by have q := HBV.out.trans (B1.mono HBV.out.size); first | exact q | (rw [HB0.out]; exact q)⟩
set_option maxHeartbeats 1000000 in
set_option maxRecDepth 100000 in
theorem valid_high (form : Int) (backup : Bool) (id : Int) (token nonce : Nat) (mac : ByteArray) (hx : Jn.Ok ⟨form, backup, id, token, nonce, mac⟩) (w : World) (ht : Tbl w) (h0 : 0 ≤ form ∧ form < 3) (h1 : 0 ≤ id) (h2 : ¬ id ≤ 255) :
    Calls Tryd.prog 18 #[.agg (jnv ⟨form, backup, id, token, nonce, mac⟩)] w fun e w' => e = .returned (.bool (decide (Jn.May ⟨form, backup, id, token, nonce, mac⟩))) ∧ Below w.heap.size w w' := by
  obtain ⟨V, hV⟩ : ∃ V, V = w.alloc (.cells (jnv ⟨form, backup, id, token, nonce, mac⟩) 24) := ⟨_, rfl⟩
  obtain ⟨b0, hb0⟩ : ∃ b0, b0 = w.heap.size := ⟨_, rfl⟩
  obtain ⟨M, hM⟩ : ∃ M, M = decide (Jn.May ⟨form, backup, id, token, nonce, mac⟩) := ⟨_, rfl⟩
  rw [← hM]
  have htv : Tbl V := by rw [hV]; exact ht.alloc _
  have HT := Lib.hid htv
  have HBV := Lib.hid (show Below w.heap.size w V by rw [hV]; exact (Below.refl _ w).alloc (Nat.le_refl _) _)
  clear ht htv
  have H0 := Lib.hid (decide_eq_true h0)
  have H1 := Lib.hid (decide_eq_true h1)
  have H2 := Lib.hid (decide_eq_false h2)
  have hx0 : Blk V b0 24 (jnv ⟨form, backup, id, token, nonce, mac⟩) := by rw [hV, hb0]; exact Blk.new _ _ _
  have HX := Lib.hid hx0
  have HMM := Lib.hid (show M = false from hM.trans (decide_eq_false fun m => h2 m.2.1.2))
  have HB0 := Lib.hid hb0
  have HVE := Lib.hid hV
  clear hx0 hb0 hV hx hM
  go_enter Tryd.func18, Tryd.ntmps18
  go_upto_region 1 with fail
  rw [← HVE.out, ← HB0.out]
  clear HVE
  have B0 : Below V.heap.size V V.drew := (Below.refl _ V).drew
  refine held_start (fun W => Below V.heap.size V W) (by kernel_rfl) (n := 31) rfl ?_
  obtain ⟨W0, hW0⟩ : ∃ W0, W0 = V.drew := ⟨_, rfl⟩
  rw [← hW0] at B0 ⊢
  clear hW0
  refine held_free 0 (.pointer (some ⟨b0, 0, none⟩)) rfl (by kernel_rfl) (by kernel_rfl) (by kernel_rfl) (by kernel_rfl) B0 (fun _ _ => ex_field (v := .pointer (some ⟨b0, 0, none⟩)) 24 (.tmp 1) 0 (by kernel_rfl) (by kernel_rfl) (by kernel_rfl)) ?_
  refine held_free 1 (.int .i64 form) rfl (by kernel_rfl) (by kernel_rfl) (by kernel_rfl) (by kernel_rfl) B0 (fun W b => ex_load 3 (.tmp 3) (by kernel_rfl) ⟨b0, 0, none⟩ (by kernel_rfl) (by kernel_rfl) ((HX.out.below b HX.out.lt).cell 0)) ?_
  refine held_call 2 rfl (by kernel_rfl) (by kernel_rfl) (by kernel_rfl) (known_b (form) true H0.out _) (fun w' h => bel_in B0 h) ?_
  intro W1 hW1
  have B1 := bel_in B0 hW1
  clear hW1 B0
  refine held_free 3 (.bool true) rfl (by kernel_rfl) (by kernel_rfl) (by kernel_rfl) (by kernel_rfl) B1 (fun _ _ => by kernel_rfl) ?_
  refine held_free 4 (.pointer (some ⟨b0, 2, none⟩)) rfl (by kernel_rfl) (by kernel_rfl) (by kernel_rfl) (by kernel_rfl) B1 (fun _ _ => ex_field (v := .pointer (some ⟨b0, 0, none⟩)) 24 (.tmp 1) 2 (by kernel_rfl) (by kernel_rfl) (by kernel_rfl)) ?_
  refine held_free 5 (.int .i64 id) rfl (by kernel_rfl) (by kernel_rfl) (by kernel_rfl) (by kernel_rfl) B1 (fun W b => ex_load 3 (.tmp 7) (by kernel_rfl) ⟨b0, 2, none⟩ (by kernel_rfl) (by kernel_rfl) ((HX.out.below b HX.out.lt).cell 2)) ?_
  refine held_free 6 (.bool true) rfl (by kernel_rfl) (by kernel_rfl) (by kernel_rfl) (by kernel_rfl) B1 (fun _ _ => ex_intleb .i64 3 3 (.const (.int .i64 0)) (.tmp 8) (by kernel_rfl) (0) (id) (by kernel_rfl) (by kernel_rfl) (by kernel_rfl) true (H1.out)) ?_
  refine held_free 7 (.bool true) rfl (by kernel_rfl) (by kernel_rfl) (by kernel_rfl) (by kernel_rfl) B1 (fun _ _ => by kernel_rfl) ?_
  refine held_free 8 (.bool true) rfl (by kernel_rfl) (by kernel_rfl) (by kernel_rfl) (by kernel_rfl) B1 (fun _ _ => by kernel_rfl) ?_
  refine held_free 9 (.pointer (some ⟨b0, 2, none⟩)) rfl (by kernel_rfl) (by kernel_rfl) (by kernel_rfl) (by kernel_rfl) B1 (fun _ _ => ex_field (v := .pointer (some ⟨b0, 0, none⟩)) 24 (.tmp 1) 2 (by kernel_rfl) (by kernel_rfl) (by kernel_rfl)) ?_
  refine held_free 10 (.int .i64 id) rfl (by kernel_rfl) (by kernel_rfl) (by kernel_rfl) (by kernel_rfl) B1 (fun W b => ex_load 3 (.tmp 12) (by kernel_rfl) ⟨b0, 2, none⟩ (by kernel_rfl) (by kernel_rfl) ((HX.out.below b HX.out.lt).cell 2)) ?_
  refine held_free 11 (.bool false) rfl (by kernel_rfl) (by kernel_rfl) (by kernel_rfl) (by kernel_rfl) B1 (fun _ _ => ex_intleb .i64 3 3 (.tmp 13) (.const (.int .i64 255)) (by kernel_rfl) (id) (255) (by kernel_rfl) (by kernel_rfl) (by kernel_rfl) false (H2.out)) ?_
  refine held_free 12 (.bool false) rfl (by kernel_rfl) (by kernel_rfl) (by kernel_rfl) (by kernel_rfl) B1 (fun _ _ => by kernel_rfl) ?_
  refine held_free 13 (.bool false) rfl (by kernel_rfl) (by kernel_rfl) (by kernel_rfl) (by kernel_rfl) B1 (fun _ _ => by kernel_rfl) ?_
  refine held_pass 14 rfl (by kernel_rfl) (by kernel_rfl) (by kernel_rfl) (by kernel_rfl) B1 ?_
  refine held_pass 15 rfl (by kernel_rfl) (by kernel_rfl) (by kernel_rfl) (by kernel_rfl) B1 ?_
  refine held_pass 16 rfl (by kernel_rfl) (by kernel_rfl) (by kernel_rfl) (by kernel_rfl) B1 ?_
  refine held_pass 17 rfl (by kernel_rfl) (by kernel_rfl) (by kernel_rfl) (by kernel_rfl) B1 ?_
  refine held_pass 18 rfl (by kernel_rfl) (by kernel_rfl) (by kernel_rfl) (by kernel_rfl) B1 ?_
  refine held_pass 19 rfl (by kernel_rfl) (by kernel_rfl) (by kernel_rfl) (by kernel_rfl) B1 ?_
  refine held_pass 20 rfl (by kernel_rfl) (by kernel_rfl) (by kernel_rfl) (by kernel_rfl) B1 ?_
  refine held_pass 21 rfl (by kernel_rfl) (by kernel_rfl) (by kernel_rfl) (by kernel_rfl) B1 ?_
  refine held_pass 22 rfl (by kernel_rfl) (by kernel_rfl) (by kernel_rfl) (by kernel_rfl) B1 ?_
  refine held_free 23 (.bool false) rfl (by kernel_rfl) (by kernel_rfl) (by kernel_rfl) (by kernel_rfl) B1 (fun _ _ => by kernel_rfl) ?_
  refine held_free 24 (.bool false) rfl (by kernel_rfl) (by kernel_rfl) (by kernel_rfl) (by kernel_rfl) B1 (fun _ _ => by kernel_rfl) ?_
  refine held_pass 25 rfl (by kernel_rfl) (by kernel_rfl) (by kernel_rfl) (by kernel_rfl) B1 ?_
  refine held_pass 26 rfl (by kernel_rfl) (by kernel_rfl) (by kernel_rfl) (by kernel_rfl) B1 ?_
  refine held_pass 27 rfl (by kernel_rfl) (by kernel_rfl) (by kernel_rfl) (by kernel_rfl) B1 ?_
  refine held_pass 28 rfl (by kernel_rfl) (by kernel_rfl) (by kernel_rfl) (by kernel_rfl) B1 ?_
  refine held_free 29 (.bool false) rfl (by kernel_rfl) (by kernel_rfl) (by kernel_rfl) (by kernel_rfl) B1 (fun _ _ => by kernel_rfl) ?_
  refine held_free 30 (.bool false) rfl (by kernel_rfl) (by kernel_rfl) (by kernel_rfl) (by kernel_rfl) B1 (fun _ _ => by kernel_rfl) ?_
  refine held_end (by kernel_rfl) ?_
  go_wp2_with fail
  rw [HMM.out]
  exact ret_slot 2 (.bool false) (by kernel_rfl) (by kernel_rfl) (by kernel_rfl) ⟨rfl, by have q := HBV.out.trans (B1.mono HBV.out.size); first | exact q | (rw [HB0.out]; exact q)⟩
set_option maxHeartbeats 1000000 in
set_option maxRecDepth 100000 in
theorem valid_0 (backup : Bool) (id : Int) (token nonce : Nat) (mac : ByteArray) (hx : Jn.Ok ⟨0, backup, id, token, nonce, mac⟩) (w : World) (ht : Tbl w) (h1 : 0 ≤ id) (h2 : id ≤ 255) :
    Calls Tryd.prog 18 #[.agg (jnv ⟨0, backup, id, token, nonce, mac⟩)] w fun e w' => e = .returned (.bool (decide (Jn.May ⟨0, backup, id, token, nonce, mac⟩))) ∧ Below w.heap.size w w' := by
  obtain ⟨V, hV⟩ : ∃ V, V = w.alloc (.cells (jnv ⟨0, backup, id, token, nonce, mac⟩) 24) := ⟨_, rfl⟩
  obtain ⟨b0, hb0⟩ : ∃ b0, b0 = w.heap.size := ⟨_, rfl⟩
  obtain ⟨M, hM⟩ : ∃ M, M = decide (Jn.May ⟨0, backup, id, token, nonce, mac⟩) := ⟨_, rfl⟩
  rw [← hM]
  have htv : Tbl V := by rw [hV]; exact ht.alloc _
  have HT := Lib.hid htv
  have HBV := Lib.hid (show Below w.heap.size w V by rw [hV]; exact (Below.refl _ w).alloc (Nat.le_refl _) _)
  clear ht htv
  by_cases h3 : mac.size = 0
  · by_cases h4 : frn ⟨0, backup, id, token, nonce, mac⟩ = Jn.zero
    · have H0 := Lib.hid (show decide ((0 : Int) ≤ 0 ∧ (0 : Int) < 3) = true by decide)
      have H1 := Lib.hid (decide_eq_true h1)
      have H2 := Lib.hid (decide_eq_true h2)
      have H3 := Lib.hid (show decide ((mac.size : Int) = 0) = true from decide_eq_true (by omega))
      have H4 := Lib.hid (show jeq (frn ⟨0, backup, id, token, nonce, mac⟩) Jn.zero = true from (jeq_iff _ _).2 h4)
      have hx0 : Blk V b0 24 (jnv ⟨0, backup, id, token, nonce, mac⟩) := by rw [hV, hb0]; exact Blk.new _ _ _
      have HX := Lib.hid hx0
      have HMM := Lib.hid (show M = true from hM.trans (decide_eq_true ⟨by simp, ⟨h1, h2⟩, h3, (frn_zero ⟨0, backup, id, token, nonce, mac⟩ (by simp)).1 h4⟩))
      have HB0 := Lib.hid hb0
      have HVE := Lib.hid hV
      clear hx0 hb0 hV hx hM
      go_enter Tryd.func18, Tryd.ntmps18
      go_upto_region 1 with fail
      rw [← HVE.out, ← HB0.out]
      clear HVE
      have B0 : Below V.heap.size V V.drew := (Below.refl _ V).drew
      refine held_start (fun W => Below V.heap.size V W) (by kernel_rfl) (n := 31) rfl ?_
      obtain ⟨W0, hW0⟩ : ∃ W0, W0 = V.drew := ⟨_, rfl⟩
      rw [← hW0] at B0 ⊢
      clear hW0
      refine held_free 0 (.pointer (some ⟨b0, 0, none⟩)) rfl (by kernel_rfl) (by kernel_rfl) (by kernel_rfl) (by kernel_rfl) B0 (fun _ _ => ex_field (v := .pointer (some ⟨b0, 0, none⟩)) 24 (.tmp 1) 0 (by kernel_rfl) (by kernel_rfl) (by kernel_rfl)) ?_
      refine held_free 1 (.int .i64 0) rfl (by kernel_rfl) (by kernel_rfl) (by kernel_rfl) (by kernel_rfl) B0 (fun W b => ex_load 3 (.tmp 3) (by kernel_rfl) ⟨b0, 0, none⟩ (by kernel_rfl) (by kernel_rfl) ((HX.out.below b HX.out.lt).cell 0)) ?_
      refine held_call 2 rfl (by kernel_rfl) (by kernel_rfl) (by kernel_rfl) (known_b (0) true H0.out _) (fun w' h => bel_in B0 h) ?_
      intro W1 hW1
      have B1 := bel_in B0 hW1
      clear hW1 B0
      refine held_free 3 (.bool true) rfl (by kernel_rfl) (by kernel_rfl) (by kernel_rfl) (by kernel_rfl) B1 (fun _ _ => by kernel_rfl) ?_
      refine held_free 4 (.pointer (some ⟨b0, 2, none⟩)) rfl (by kernel_rfl) (by kernel_rfl) (by kernel_rfl) (by kernel_rfl) B1 (fun _ _ => ex_field (v := .pointer (some ⟨b0, 0, none⟩)) 24 (.tmp 1) 2 (by kernel_rfl) (by kernel_rfl) (by kernel_rfl)) ?_
      refine held_free 5 (.int .i64 id) rfl (by kernel_rfl) (by kernel_rfl) (by kernel_rfl) (by kernel_rfl) B1 (fun W b => ex_load 3 (.tmp 7) (by kernel_rfl) ⟨b0, 2, none⟩ (by kernel_rfl) (by kernel_rfl) ((HX.out.below b HX.out.lt).cell 2)) ?_
      refine held_free 6 (.bool true) rfl (by kernel_rfl) (by kernel_rfl) (by kernel_rfl) (by kernel_rfl) B1 (fun _ _ => ex_intleb .i64 3 3 (.const (.int .i64 0)) (.tmp 8) (by kernel_rfl) (0) (id) (by kernel_rfl) (by kernel_rfl) (by kernel_rfl) true (H1.out)) ?_
      refine held_free 7 (.bool true) rfl (by kernel_rfl) (by kernel_rfl) (by kernel_rfl) (by kernel_rfl) B1 (fun _ _ => by kernel_rfl) ?_
      refine held_free 8 (.bool true) rfl (by kernel_rfl) (by kernel_rfl) (by kernel_rfl) (by kernel_rfl) B1 (fun _ _ => by kernel_rfl) ?_
      refine held_free 9 (.pointer (some ⟨b0, 2, none⟩)) rfl (by kernel_rfl) (by kernel_rfl) (by kernel_rfl) (by kernel_rfl) B1 (fun _ _ => ex_field (v := .pointer (some ⟨b0, 0, none⟩)) 24 (.tmp 1) 2 (by kernel_rfl) (by kernel_rfl) (by kernel_rfl)) ?_
      refine held_free 10 (.int .i64 id) rfl (by kernel_rfl) (by kernel_rfl) (by kernel_rfl) (by kernel_rfl) B1 (fun W b => ex_load 3 (.tmp 12) (by kernel_rfl) ⟨b0, 2, none⟩ (by kernel_rfl) (by kernel_rfl) ((HX.out.below b HX.out.lt).cell 2)) ?_
      refine held_free 11 (.bool true) rfl (by kernel_rfl) (by kernel_rfl) (by kernel_rfl) (by kernel_rfl) B1 (fun _ _ => ex_intleb .i64 3 3 (.tmp 13) (.const (.int .i64 255)) (by kernel_rfl) (id) (255) (by kernel_rfl) (by kernel_rfl) (by kernel_rfl) true (H2.out)) ?_
      refine held_free 12 (.bool true) rfl (by kernel_rfl) (by kernel_rfl) (by kernel_rfl) (by kernel_rfl) B1 (fun _ _ => by kernel_rfl) ?_
      refine held_free 13 (.bool true) rfl (by kernel_rfl) (by kernel_rfl) (by kernel_rfl) (by kernel_rfl) B1 (fun _ _ => by kernel_rfl) ?_
      refine held_free 14 (.pointer (some ⟨b0, 5, none⟩)) rfl (by kernel_rfl) (by kernel_rfl) (by kernel_rfl) (by kernel_rfl) B1 (fun _ _ => ex_field (v := .pointer (some ⟨b0, 0, none⟩)) 24 (.tmp 1) 5 (by kernel_rfl) (by kernel_rfl) (by kernel_rfl)) ?_
      refine held_free 15 (.string mac) rfl (by kernel_rfl) (by kernel_rfl) (by kernel_rfl) (by kernel_rfl) B1 (fun W b => ex_load 9 (.tmp 17) (by kernel_rfl) ⟨b0, 5, none⟩ (by kernel_rfl) (by kernel_rfl) ((HX.out.below b HX.out.lt).cell 5)) ?_
      refine held_free 16 (.int .i64 (mac.size : Int)) rfl (by kernel_rfl) (by kernel_rfl) (by kernel_rfl) (by kernel_rfl) B1 (fun _ _ => by kernel_rfl) ?_
      refine held_free 17 (.pointer (some ⟨b0, 0, none⟩)) rfl (by kernel_rfl) (by kernel_rfl) (by kernel_rfl) (by kernel_rfl) B1 (fun _ _ => ex_field (v := .pointer (some ⟨b0, 0, none⟩)) 24 (.tmp 1) 0 (by kernel_rfl) (by kernel_rfl) (by kernel_rfl)) ?_
      refine held_free 18 (.int .i64 0) rfl (by kernel_rfl) (by kernel_rfl) (by kernel_rfl) (by kernel_rfl) B1 (fun W b => ex_load 3 (.tmp 20) (by kernel_rfl) ⟨b0, 0, none⟩ (by kernel_rfl) (by kernel_rfl) ((HX.out.below b HX.out.lt).cell 0)) ?_
      refine held_free 19 (.pointer (some ⟨0, 0, none⟩)) rfl (by kernel_rfl) (by kernel_rfl) (by kernel_rfl) (by kernel_rfl) B1 (fun _ _ => by kernel_rfl) ?_
      refine held_free 20 (.pointer (some ⟨0, 1, none⟩)) rfl (by kernel_rfl) (by kernel_rfl) (by kernel_rfl) (by kernel_rfl) B1 (fun _ _ => ex_field (v := .pointer (some ⟨0, 0, none⟩)) 58 (.tmp 22) 1 (by kernel_rfl) (by kernel_rfl) (by kernel_rfl)) ?_
      refine held_free 21 (.int .i64 0) rfl (by kernel_rfl) (by kernel_rfl) (by kernel_rfl) (by kernel_rfl) B1 (fun W b => ex_load 3 (.tmp 23) (by kernel_rfl) ⟨0, 1, none⟩ (by kernel_rfl) (by kernel_rfl) ((HT.out.below b).c1)) ?_
      refine held_free 22 (.bool true) rfl (by kernel_rfl) (by kernel_rfl) (by kernel_rfl) (by kernel_rfl) B1 (fun _ _ => ex_inteqb .i64 3 3 (.tmp 19) (.tmp 24) (by kernel_rfl) ((mac.size : Int)) (0) (by kernel_rfl) (by kernel_rfl) (by kernel_rfl) true (H3.out)) ?_
      refine held_free 23 (.bool true) rfl (by kernel_rfl) (by kernel_rfl) (by kernel_rfl) (by kernel_rfl) B1 (fun _ _ => by kernel_rfl) ?_
      refine held_free 24 (.bool true) rfl (by kernel_rfl) (by kernel_rfl) (by kernel_rfl) (by kernel_rfl) B1 (fun _ _ => by kernel_rfl) ?_
      refine held_free 25 (.agg (jnv ⟨0, backup, id, token, nonce, mac⟩)) rfl (by kernel_rfl) (by kernel_rfl) (by kernel_rfl) (by kernel_rfl) B1 (fun W b => exec_row_ 24 (.tmp 1) (by kernel_rfl) b0 (by kernel_rfl) 24 _ (0, 0) _ (HX.out.below b HX.out.lt) Tryd.underlying24 rfl jn_size) ?_
      refine held_free 27 (.agg (jnv Jn.zero)) rfl (by kernel_rfl) (by kernel_rfl) (by kernel_rfl) (by kernel_rfl) B1 (fun _ _ => by kernel_rfl) ?_
      refine held_call 26 rfl (by kernel_rfl) (by kernel_rfl) (by kernel_rfl) (foreign_any ⟨0, backup, id, token, nonce, mac⟩ _) (fun w' h => bel_in B1 h) ?_
      intro W2 hW2
      have B2 := bel_in B1 hW2
      clear hW2 B1
      refine held_free 28 (.bool true) rfl (by kernel_rfl) (by kernel_rfl) (by kernel_rfl) (by kernel_rfl) B2 (fun W b => ex_aggeq 24 24 (.tmp 29) (.tmp 30) (by kernel_rfl) ((jnv (frn ⟨0, backup, id, token, nonce, mac⟩))) ((jnv Jn.zero)) (by kernel_rfl) (by kernel_rfl) (by kernel_rfl) true (jn_equal_b _ _ true H4.out W)) ?_
      refine held_free 29 (.bool true) rfl (by kernel_rfl) (by kernel_rfl) (by kernel_rfl) (by kernel_rfl) B2 (fun _ _ => by kernel_rfl) ?_
      refine held_free 30 (.bool true) rfl (by kernel_rfl) (by kernel_rfl) (by kernel_rfl) (by kernel_rfl) B2 (fun _ _ => by kernel_rfl) ?_
      refine held_end (by kernel_rfl) ?_
      go_wp2_with fail
      rw [HMM.out]
      exact ret_slot 2 (.bool true) (by kernel_rfl) (by kernel_rfl) (by kernel_rfl) ⟨rfl, by have q := HBV.out.trans (B2.mono HBV.out.size); first | exact q | (rw [HB0.out]; exact q)⟩
    · have H0 := Lib.hid (show decide ((0 : Int) ≤ 0 ∧ (0 : Int) < 3) = true by decide)
      have H1 := Lib.hid (decide_eq_true h1)
      have H2 := Lib.hid (decide_eq_true h2)
      have H3 := Lib.hid (show decide ((mac.size : Int) = 0) = true from decide_eq_true (by omega))
      have H4 := Lib.hid (show jeq (frn ⟨0, backup, id, token, nonce, mac⟩) Jn.zero = false from jeq_ne h4)
      have hx0 : Blk V b0 24 (jnv ⟨0, backup, id, token, nonce, mac⟩) := by rw [hV, hb0]; exact Blk.new _ _ _
      have HX := Lib.hid hx0
      have HMM := Lib.hid (show M = false from hM.trans (decide_eq_false fun m => h4 ((frn_zero ⟨0, backup, id, token, nonce, mac⟩ (by simp)).2 m.2.2.2)))
      have HB0 := Lib.hid hb0
      have HVE := Lib.hid hV
      clear hx0 hb0 hV hx hM
      go_enter Tryd.func18, Tryd.ntmps18
      go_upto_region 1 with fail
      rw [← HVE.out, ← HB0.out]
      clear HVE
      have B0 : Below V.heap.size V V.drew := (Below.refl _ V).drew
      refine held_start (fun W => Below V.heap.size V W) (by kernel_rfl) (n := 31) rfl ?_
      obtain ⟨W0, hW0⟩ : ∃ W0, W0 = V.drew := ⟨_, rfl⟩
      rw [← hW0] at B0 ⊢
      clear hW0
      refine held_free 0 (.pointer (some ⟨b0, 0, none⟩)) rfl (by kernel_rfl) (by kernel_rfl) (by kernel_rfl) (by kernel_rfl) B0 (fun _ _ => ex_field (v := .pointer (some ⟨b0, 0, none⟩)) 24 (.tmp 1) 0 (by kernel_rfl) (by kernel_rfl) (by kernel_rfl)) ?_
      refine held_free 1 (.int .i64 0) rfl (by kernel_rfl) (by kernel_rfl) (by kernel_rfl) (by kernel_rfl) B0 (fun W b => ex_load 3 (.tmp 3) (by kernel_rfl) ⟨b0, 0, none⟩ (by kernel_rfl) (by kernel_rfl) ((HX.out.below b HX.out.lt).cell 0)) ?_
      refine held_call 2 rfl (by kernel_rfl) (by kernel_rfl) (by kernel_rfl) (known_b (0) true H0.out _) (fun w' h => bel_in B0 h) ?_
      intro W1 hW1
      have B1 := bel_in B0 hW1
      clear hW1 B0
      refine held_free 3 (.bool true) rfl (by kernel_rfl) (by kernel_rfl) (by kernel_rfl) (by kernel_rfl) B1 (fun _ _ => by kernel_rfl) ?_
      refine held_free 4 (.pointer (some ⟨b0, 2, none⟩)) rfl (by kernel_rfl) (by kernel_rfl) (by kernel_rfl) (by kernel_rfl) B1 (fun _ _ => ex_field (v := .pointer (some ⟨b0, 0, none⟩)) 24 (.tmp 1) 2 (by kernel_rfl) (by kernel_rfl) (by kernel_rfl)) ?_
      refine held_free 5 (.int .i64 id) rfl (by kernel_rfl) (by kernel_rfl) (by kernel_rfl) (by kernel_rfl) B1 (fun W b => ex_load 3 (.tmp 7) (by kernel_rfl) ⟨b0, 2, none⟩ (by kernel_rfl) (by kernel_rfl) ((HX.out.below b HX.out.lt).cell 2)) ?_
      refine held_free 6 (.bool true) rfl (by kernel_rfl) (by kernel_rfl) (by kernel_rfl) (by kernel_rfl) B1 (fun _ _ => ex_intleb .i64 3 3 (.const (.int .i64 0)) (.tmp 8) (by kernel_rfl) (0) (id) (by kernel_rfl) (by kernel_rfl) (by kernel_rfl) true (H1.out)) ?_
      refine held_free 7 (.bool true) rfl (by kernel_rfl) (by kernel_rfl) (by kernel_rfl) (by kernel_rfl) B1 (fun _ _ => by kernel_rfl) ?_
      refine held_free 8 (.bool true) rfl (by kernel_rfl) (by kernel_rfl) (by kernel_rfl) (by kernel_rfl) B1 (fun _ _ => by kernel_rfl) ?_
      refine held_free 9 (.pointer (some ⟨b0, 2, none⟩)) rfl (by kernel_rfl) (by kernel_rfl) (by kernel_rfl) (by kernel_rfl) B1 (fun _ _ => ex_field (v := .pointer (some ⟨b0, 0, none⟩)) 24 (.tmp 1) 2 (by kernel_rfl) (by kernel_rfl) (by kernel_rfl)) ?_
      refine held_free 10 (.int .i64 id) rfl (by kernel_rfl) (by kernel_rfl) (by kernel_rfl) (by kernel_rfl) B1 (fun W b => ex_load 3 (.tmp 12) (by kernel_rfl) ⟨b0, 2, none⟩ (by kernel_rfl) (by kernel_rfl) ((HX.out.below b HX.out.lt).cell 2)) ?_
      refine held_free 11 (.bool true) rfl (by kernel_rfl) (by kernel_rfl) (by kernel_rfl) (by kernel_rfl) B1 (fun _ _ => ex_intleb .i64 3 3 (.tmp 13) (.const (.int .i64 255)) (by kernel_rfl) (id) (255) (by kernel_rfl) (by kernel_rfl) (by kernel_rfl) true (H2.out)) ?_
      refine held_free 12 (.bool true) rfl (by kernel_rfl) (by kernel_rfl) (by kernel_rfl) (by kernel_rfl) B1 (fun _ _ => by kernel_rfl) ?_
      refine held_free 13 (.bool true) rfl (by kernel_rfl) (by kernel_rfl) (by kernel_rfl) (by kernel_rfl) B1 (fun _ _ => by kernel_rfl) ?_
      refine held_free 14 (.pointer (some ⟨b0, 5, none⟩)) rfl (by kernel_rfl) (by kernel_rfl) (by kernel_rfl) (by kernel_rfl) B1 (fun _ _ => ex_field (v := .pointer (some ⟨b0, 0, none⟩)) 24 (.tmp 1) 5 (by kernel_rfl) (by kernel_rfl) (by kernel_rfl)) ?_
      refine held_free 15 (.string mac) rfl (by kernel_rfl) (by kernel_rfl) (by kernel_rfl) (by kernel_rfl) B1 (fun W b => ex_load 9 (.tmp 17) (by kernel_rfl) ⟨b0, 5, none⟩ (by kernel_rfl) (by kernel_rfl) ((HX.out.below b HX.out.lt).cell 5)) ?_
      refine held_free 16 (.int .i64 (mac.size : Int)) rfl (by kernel_rfl) (by kernel_rfl) (by kernel_rfl) (by kernel_rfl) B1 (fun _ _ => by kernel_rfl) ?_
      refine held_free 17 (.pointer (some ⟨b0, 0, none⟩)) rfl (by kernel_rfl) (by kernel_rfl) (by kernel_rfl) (by kernel_rfl) B1 (fun _ _ => ex_field (v := .pointer (some ⟨b0, 0, none⟩)) 24 (.tmp 1) 0 (by kernel_rfl) (by kernel_rfl) (by kernel_rfl)) ?_
      refine held_free 18 (.int .i64 0) rfl (by kernel_rfl) (by kernel_rfl) (by kernel_rfl) (by kernel_rfl) B1 (fun W b => ex_load 3 (.tmp 20) (by kernel_rfl) ⟨b0, 0, none⟩ (by kernel_rfl) (by kernel_rfl) ((HX.out.below b HX.out.lt).cell 0)) ?_
      refine held_free 19 (.pointer (some ⟨0, 0, none⟩)) rfl (by kernel_rfl) (by kernel_rfl) (by kernel_rfl) (by kernel_rfl) B1 (fun _ _ => by kernel_rfl) ?_
      refine held_free 20 (.pointer (some ⟨0, 1, none⟩)) rfl (by kernel_rfl) (by kernel_rfl) (by kernel_rfl) (by kernel_rfl) B1 (fun _ _ => ex_field (v := .pointer (some ⟨0, 0, none⟩)) 58 (.tmp 22) 1 (by kernel_rfl) (by kernel_rfl) (by kernel_rfl)) ?_
      refine held_free 21 (.int .i64 0) rfl (by kernel_rfl) (by kernel_rfl) (by kernel_rfl) (by kernel_rfl) B1 (fun W b => ex_load 3 (.tmp 23) (by kernel_rfl) ⟨0, 1, none⟩ (by kernel_rfl) (by kernel_rfl) ((HT.out.below b).c1)) ?_
      refine held_free 22 (.bool true) rfl (by kernel_rfl) (by kernel_rfl) (by kernel_rfl) (by kernel_rfl) B1 (fun _ _ => ex_inteqb .i64 3 3 (.tmp 19) (.tmp 24) (by kernel_rfl) ((mac.size : Int)) (0) (by kernel_rfl) (by kernel_rfl) (by kernel_rfl) true (H3.out)) ?_
      refine held_free 23 (.bool true) rfl (by kernel_rfl) (by kernel_rfl) (by kernel_rfl) (by kernel_rfl) B1 (fun _ _ => by kernel_rfl) ?_
      refine held_free 24 (.bool true) rfl (by kernel_rfl) (by kernel_rfl) (by kernel_rfl) (by kernel_rfl) B1 (fun _ _ => by kernel_rfl) ?_
      refine held_free 25 (.agg (jnv ⟨0, backup, id, token, nonce, mac⟩)) rfl (by kernel_rfl) (by kernel_rfl) (by kernel_rfl) (by kernel_rfl) B1 (fun W b => exec_row_ 24 (.tmp 1) (by kernel_rfl) b0 (by kernel_rfl) 24 _ (0, 0) _ (HX.out.below b HX.out.lt) Tryd.underlying24 rfl jn_size) ?_
      refine held_free 27 (.agg (jnv Jn.zero)) rfl (by kernel_rfl) (by kernel_rfl) (by kernel_rfl) (by kernel_rfl) B1 (fun _ _ => by kernel_rfl) ?_
      refine held_call 26 rfl (by kernel_rfl) (by kernel_rfl) (by kernel_rfl) (foreign_any ⟨0, backup, id, token, nonce, mac⟩ _) (fun w' h => bel_in B1 h) ?_
      intro W2 hW2
      have B2 := bel_in B1 hW2
      clear hW2 B1
      refine held_free 28 (.bool false) rfl (by kernel_rfl) (by kernel_rfl) (by kernel_rfl) (by kernel_rfl) B2 (fun W b => ex_aggeq 24 24 (.tmp 29) (.tmp 30) (by kernel_rfl) ((jnv (frn ⟨0, backup, id, token, nonce, mac⟩))) ((jnv Jn.zero)) (by kernel_rfl) (by kernel_rfl) (by kernel_rfl) false (jn_equal_b _ _ false H4.out W)) ?_
      refine held_free 29 (.bool false) rfl (by kernel_rfl) (by kernel_rfl) (by kernel_rfl) (by kernel_rfl) B2 (fun _ _ => by kernel_rfl) ?_
      refine held_free 30 (.bool false) rfl (by kernel_rfl) (by kernel_rfl) (by kernel_rfl) (by kernel_rfl) B2 (fun _ _ => by kernel_rfl) ?_
      refine held_end (by kernel_rfl) ?_
      go_wp2_with fail
      rw [HMM.out]
      exact ret_slot 2 (.bool false) (by kernel_rfl) (by kernel_rfl) (by kernel_rfl) ⟨rfl, by have q := HBV.out.trans (B2.mono HBV.out.size); first | exact q | (rw [HB0.out]; exact q)⟩
  · have H0 := Lib.hid (show decide ((0 : Int) ≤ 0 ∧ (0 : Int) < 3) = true by decide)
    have H1 := Lib.hid (decide_eq_true h1)
    have H2 := Lib.hid (decide_eq_true h2)
    have H3 := Lib.hid (show decide ((mac.size : Int) = 0) = false from decide_eq_false (by omega))
    have hx0 : Blk V b0 24 (jnv ⟨0, backup, id, token, nonce, mac⟩) := by rw [hV, hb0]; exact Blk.new _ _ _
    have HX := Lib.hid hx0
    have HMM := Lib.hid (show M = false from hM.trans (decide_eq_false fun m => h3 (show mac.size = 0 from m.2.2.1)))
    have HB0 := Lib.hid hb0
    have HVE := Lib.hid hV
    clear hx0 hb0 hV hx hM
    go_enter Tryd.func18, Tryd.ntmps18
    go_upto_region 1 with fail
    rw [← HVE.out, ← HB0.out]
    clear HVE
    have B0 : Below V.heap.size V V.drew := (Below.refl _ V).drew
    refine held_start (fun W => Below V.heap.size V W) (by kernel_rfl) (n := 31) rfl ?_
    obtain ⟨W0, hW0⟩ : ∃ W0, W0 = V.drew := ⟨_, rfl⟩
    rw [← hW0] at B0 ⊢
    clear hW0
    refine held_free 0 (.pointer (some ⟨b0, 0, none⟩)) rfl (by kernel_rfl) (by kernel_rfl) (by kernel_rfl) (by kernel_rfl) B0 (fun _ _ => ex_field (v := .pointer (some ⟨b0, 0, none⟩)) 24 (.tmp 1) 0 (by kernel_rfl) (by kernel_rfl) (by kernel_rfl)) ?_
    refine held_free 1 (.int .i64 0) rfl (by kernel_rfl) (by kernel_rfl) (by kernel_rfl) (by kernel_rfl) B0 (fun W b => ex_load 3 (.tmp 3) (by kernel_rfl) ⟨b0, 0, none⟩ (by kernel_rfl) (by kernel_rfl) ((HX.out.below b HX.out.lt).cell 0)) ?_
    refine held_call 2 rfl (by kernel_rfl) (by kernel_rfl) (by kernel_rfl) (known_b (0) true H0.out _) (fun w' h => bel_in B0 h) ?_
    intro W1 hW1
    have B1 := bel_in B0 hW1
    clear hW1 B0
    refine held_free 3 (.bool true) rfl (by kernel_rfl) (by kernel_rfl) (by kernel_rfl) (by kernel_rfl) B1 (fun _ _ => by kernel_rfl) ?_
    refine held_free 4 (.pointer (some ⟨b0, 2, none⟩)) rfl (by kernel_rfl) (by kernel_rfl) (by kernel_rfl) (by kernel_rfl) B1 (fun _ _ => ex_field (v := .pointer (some ⟨b0, 0, none⟩)) 24 (.tmp 1) 2 (by kernel_rfl) (by kernel_rfl) (by kernel_rfl)) ?_
    refine held_free 5 (.int .i64 id) rfl (by kernel_rfl) (by kernel_rfl) (by kernel_rfl) (by kernel_rfl) B1 (fun W b => ex_load 3 (.tmp 7) (by kernel_rfl) ⟨b0, 2, none⟩ (by kernel_rfl) (by kernel_rfl) ((HX.out.below b HX.out.lt).cell 2)) ?_
    refine held_free 6 (.bool true) rfl (by kernel_rfl) (by kernel_rfl) (by kernel_rfl) (by kernel_rfl) B1 (fun _ _ => ex_intleb .i64 3 3 (.const (.int .i64 0)) (.tmp 8) (by kernel_rfl) (0) (id) (by kernel_rfl) (by kernel_rfl) (by kernel_rfl) true (H1.out)) ?_
    refine held_free 7 (.bool true) rfl (by kernel_rfl) (by kernel_rfl) (by kernel_rfl) (by kernel_rfl) B1 (fun _ _ => by kernel_rfl) ?_
    refine held_free 8 (.bool true) rfl (by kernel_rfl) (by kernel_rfl) (by kernel_rfl) (by kernel_rfl) B1 (fun _ _ => by kernel_rfl) ?_
    refine held_free 9 (.pointer (some ⟨b0, 2, none⟩)) rfl (by kernel_rfl) (by kernel_rfl) (by kernel_rfl) (by kernel_rfl) B1 (fun _ _ => ex_field (v := .pointer (some ⟨b0, 0, none⟩)) 24 (.tmp 1) 2 (by kernel_rfl) (by kernel_rfl) (by kernel_rfl)) ?_
    refine held_free 10 (.int .i64 id) rfl (by kernel_rfl) (by kernel_rfl) (by kernel_rfl) (by kernel_rfl) B1 (fun W b => ex_load 3 (.tmp 12) (by kernel_rfl) ⟨b0, 2, none⟩ (by kernel_rfl) (by kernel_rfl) ((HX.out.below b HX.out.lt).cell 2)) ?_
    refine held_free 11 (.bool true) rfl (by kernel_rfl) (by kernel_rfl) (by kernel_rfl) (by kernel_rfl) B1 (fun _ _ => ex_intleb .i64 3 3 (.tmp 13) (.const (.int .i64 255)) (by kernel_rfl) (id) (255) (by kernel_rfl) (by kernel_rfl) (by kernel_rfl) true (H2.out)) ?_
    refine held_free 12 (.bool true) rfl (by kernel_rfl) (by kernel_rfl) (by kernel_rfl) (by kernel_rfl) B1 (fun _ _ => by kernel_rfl) ?_
    refine held_free 13 (.bool true) rfl (by kernel_rfl) (by kernel_rfl) (by kernel_rfl) (by kernel_rfl) B1 (fun _ _ => by kernel_rfl) ?_
    refine held_free 14 (.pointer (some ⟨b0, 5, none⟩)) rfl (by kernel_rfl) (by kernel_rfl) (by kernel_rfl) (by kernel_rfl) B1 (fun _ _ => ex_field (v := .pointer (some ⟨b0, 0, none⟩)) 24 (.tmp 1) 5 (by kernel_rfl) (by kernel_rfl) (by kernel_rfl)) ?_
    refine held_free 15 (.string mac) rfl (by kernel_rfl) (by kernel_rfl) (by kernel_rfl) (by kernel_rfl) B1 (fun W b => ex_load 9 (.tmp 17) (by kernel_rfl) ⟨b0, 5, none⟩ (by kernel_rfl) (by kernel_rfl) ((HX.out.below b HX.out.lt).cell 5)) ?_
    refine held_free 16 (.int .i64 (mac.size : Int)) rfl (by kernel_rfl) (by kernel_rfl) (by kernel_rfl) (by kernel_rfl) B1 (fun _ _ => by kernel_rfl) ?_
    refine held_free 17 (.pointer (some ⟨b0, 0, none⟩)) rfl (by kernel_rfl) (by kernel_rfl) (by kernel_rfl) (by kernel_rfl) B1 (fun _ _ => ex_field (v := .pointer (some ⟨b0, 0, none⟩)) 24 (.tmp 1) 0 (by kernel_rfl) (by kernel_rfl) (by kernel_rfl)) ?_
    refine held_free 18 (.int .i64 0) rfl (by kernel_rfl) (by kernel_rfl) (by kernel_rfl) (by kernel_rfl) B1 (fun W b => ex_load 3 (.tmp 20) (by kernel_rfl) ⟨b0, 0, none⟩ (by kernel_rfl) (by kernel_rfl) ((HX.out.below b HX.out.lt).cell 0)) ?_
    refine held_free 19 (.pointer (some ⟨0, 0, none⟩)) rfl (by kernel_rfl) (by kernel_rfl) (by kernel_rfl) (by kernel_rfl) B1 (fun _ _ => by kernel_rfl) ?_
    refine held_free 20 (.pointer (some ⟨0, 1, none⟩)) rfl (by kernel_rfl) (by kernel_rfl) (by kernel_rfl) (by kernel_rfl) B1 (fun _ _ => ex_field (v := .pointer (some ⟨0, 0, none⟩)) 58 (.tmp 22) 1 (by kernel_rfl) (by kernel_rfl) (by kernel_rfl)) ?_
    refine held_free 21 (.int .i64 0) rfl (by kernel_rfl) (by kernel_rfl) (by kernel_rfl) (by kernel_rfl) B1 (fun W b => ex_load 3 (.tmp 23) (by kernel_rfl) ⟨0, 1, none⟩ (by kernel_rfl) (by kernel_rfl) ((HT.out.below b).c1)) ?_
    refine held_free 22 (.bool false) rfl (by kernel_rfl) (by kernel_rfl) (by kernel_rfl) (by kernel_rfl) B1 (fun _ _ => ex_inteqb .i64 3 3 (.tmp 19) (.tmp 24) (by kernel_rfl) ((mac.size : Int)) (0) (by kernel_rfl) (by kernel_rfl) (by kernel_rfl) false (H3.out)) ?_
    refine held_free 23 (.bool false) rfl (by kernel_rfl) (by kernel_rfl) (by kernel_rfl) (by kernel_rfl) B1 (fun _ _ => by kernel_rfl) ?_
    refine held_free 24 (.bool false) rfl (by kernel_rfl) (by kernel_rfl) (by kernel_rfl) (by kernel_rfl) B1 (fun _ _ => by kernel_rfl) ?_
    refine held_pass 25 rfl (by kernel_rfl) (by kernel_rfl) (by kernel_rfl) (by kernel_rfl) B1 ?_
    refine held_pass 26 rfl (by kernel_rfl) (by kernel_rfl) (by kernel_rfl) (by kernel_rfl) B1 ?_
    refine held_pass 27 rfl (by kernel_rfl) (by kernel_rfl) (by kernel_rfl) (by kernel_rfl) B1 ?_
    refine held_pass 28 rfl (by kernel_rfl) (by kernel_rfl) (by kernel_rfl) (by kernel_rfl) B1 ?_
    refine held_free 29 (.bool false) rfl (by kernel_rfl) (by kernel_rfl) (by kernel_rfl) (by kernel_rfl) B1 (fun _ _ => by kernel_rfl) ?_
    refine held_free 30 (.bool false) rfl (by kernel_rfl) (by kernel_rfl) (by kernel_rfl) (by kernel_rfl) B1 (fun _ _ => by kernel_rfl) ?_
    refine held_end (by kernel_rfl) ?_
    go_wp2_with fail
    rw [HMM.out]
    exact ret_slot 2 (.bool false) (by kernel_rfl) (by kernel_rfl) (by kernel_rfl) ⟨rfl, by have q := HBV.out.trans (B1.mono HBV.out.size); first | exact q | (rw [HB0.out]; exact q)⟩
set_option maxHeartbeats 1000000 in
set_option maxRecDepth 100000 in
theorem valid_1 (backup : Bool) (id : Int) (token nonce : Nat) (mac : ByteArray) (hx : Jn.Ok ⟨1, backup, id, token, nonce, mac⟩) (w : World) (ht : Tbl w) (h1 : 0 ≤ id) (h2 : id ≤ 255) :
    Calls Tryd.prog 18 #[.agg (jnv ⟨1, backup, id, token, nonce, mac⟩)] w fun e w' => e = .returned (.bool (decide (Jn.May ⟨1, backup, id, token, nonce, mac⟩))) ∧ Below w.heap.size w w' := by
  obtain ⟨V, hV⟩ : ∃ V, V = w.alloc (.cells (jnv ⟨1, backup, id, token, nonce, mac⟩) 24) := ⟨_, rfl⟩
  obtain ⟨b0, hb0⟩ : ∃ b0, b0 = w.heap.size := ⟨_, rfl⟩
  obtain ⟨M, hM⟩ : ∃ M, M = decide (Jn.May ⟨1, backup, id, token, nonce, mac⟩) := ⟨_, rfl⟩
  rw [← hM]
  have htv : Tbl V := by rw [hV]; exact ht.alloc _
  have HT := Lib.hid htv
  have HBV := Lib.hid (show Below w.heap.size w V by rw [hV]; exact (Below.refl _ w).alloc (Nat.le_refl _) _)
  clear ht htv
  by_cases h3 : mac.size = 8
  · by_cases h4 : frn ⟨1, backup, id, token, nonce, mac⟩ = Jn.zero
    · have H0 := Lib.hid (show decide ((0 : Int) ≤ 1 ∧ (1 : Int) < 3) = true by decide)
      have H1 := Lib.hid (decide_eq_true h1)
      have H2 := Lib.hid (decide_eq_true h2)
      have H3 := Lib.hid (show decide ((mac.size : Int) = 8) = true from decide_eq_true (by omega))
      have H4 := Lib.hid (show jeq (frn ⟨1, backup, id, token, nonce, mac⟩) Jn.zero = true from (jeq_iff _ _).2 h4)
      have hx0 : Blk V b0 24 (jnv ⟨1, backup, id, token, nonce, mac⟩) := by rw [hV, hb0]; exact Blk.new _ _ _
      have HX := Lib.hid hx0
      have HMM := Lib.hid (show M = true from hM.trans (decide_eq_true ⟨by simp, ⟨h1, h2⟩, h3, (frn_zero ⟨1, backup, id, token, nonce, mac⟩ (by simp)).1 h4⟩))
      have HB0 := Lib.hid hb0
      have HVE := Lib.hid hV
      clear hx0 hb0 hV hx hM
      go_enter Tryd.func18, Tryd.ntmps18
      go_upto_region 1 with fail
      rw [← HVE.out, ← HB0.out]
      clear HVE
      have B0 : Below V.heap.size V V.drew := (Below.refl _ V).drew
      refine held_start (fun W => Below V.heap.size V W) (by kernel_rfl) (n := 31) rfl ?_
      obtain ⟨W0, hW0⟩ : ∃ W0, W0 = V.drew := ⟨_, rfl⟩
      rw [← hW0] at B0 ⊢
      clear hW0
      refine held_free 0 (.pointer (some ⟨b0, 0, none⟩)) rfl (by kernel_rfl) (by kernel_rfl) (by kernel_rfl) (by kernel_rfl) B0 (fun _ _ => ex_field (v := .pointer (some ⟨b0, 0, none⟩)) 24 (.tmp 1) 0 (by kernel_rfl) (by kernel_rfl) (by kernel_rfl)) ?_
      refine held_free 1 (.int .i64 1) rfl (by kernel_rfl) (by kernel_rfl) (by kernel_rfl) (by kernel_rfl) B0 (fun W b => ex_load 3 (.tmp 3) (by kernel_rfl) ⟨b0, 0, none⟩ (by kernel_rfl) (by kernel_rfl) ((HX.out.below b HX.out.lt).cell 0)) ?_
      refine held_call 2 rfl (by kernel_rfl) (by kernel_rfl) (by kernel_rfl) (known_b (1) true H0.out _) (fun w' h => bel_in B0 h) ?_
      intro W1 hW1
      have B1 := bel_in B0 hW1
      clear hW1 B0
      refine held_free 3 (.bool true) rfl (by kernel_rfl) (by kernel_rfl) (by kernel_rfl) (by kernel_rfl) B1 (fun _ _ => by kernel_rfl) ?_
      refine held_free 4 (.pointer (some ⟨b0, 2, none⟩)) rfl (by kernel_rfl) (by kernel_rfl) (by kernel_rfl) (by kernel_rfl) B1 (fun _ _ => ex_field (v := .pointer (some ⟨b0, 0, none⟩)) 24 (.tmp 1) 2 (by kernel_rfl) (by kernel_rfl) (by kernel_rfl)) ?_
      refine held_free 5 (.int .i64 id) rfl (by kernel_rfl) (by kernel_rfl) (by kernel_rfl) (by kernel_rfl) B1 (fun W b => ex_load 3 (.tmp 7) (by kernel_rfl) ⟨b0, 2, none⟩ (by kernel_rfl) (by kernel_rfl) ((HX.out.below b HX.out.lt).cell 2)) ?_
      refine held_free 6 (.bool true) rfl (by kernel_rfl) (by kernel_rfl) (by kernel_rfl) (by kernel_rfl) B1 (fun _ _ => ex_intleb .i64 3 3 (.const (.int .i64 0)) (.tmp 8) (by kernel_rfl) (0) (id) (by kernel_rfl) (by kernel_rfl) (by kernel_rfl) true (H1.out)) ?_
      refine held_free 7 (.bool true) rfl (by kernel_rfl) (by kernel_rfl) (by kernel_rfl) (by kernel_rfl) B1 (fun _ _ => by kernel_rfl) ?_
      refine held_free 8 (.bool true) rfl (by kernel_rfl) (by kernel_rfl) (by kernel_rfl) (by kernel_rfl) B1 (fun _ _ => by kernel_rfl) ?_
      refine held_free 9 (.pointer (some ⟨b0, 2, none⟩)) rfl (by kernel_rfl) (by kernel_rfl) (by kernel_rfl) (by kernel_rfl) B1 (fun _ _ => ex_field (v := .pointer (some ⟨b0, 0, none⟩)) 24 (.tmp 1) 2 (by kernel_rfl) (by kernel_rfl) (by kernel_rfl)) ?_
      refine held_free 10 (.int .i64 id) rfl (by kernel_rfl) (by kernel_rfl) (by kernel_rfl) (by kernel_rfl) B1 (fun W b => ex_load 3 (.tmp 12) (by kernel_rfl) ⟨b0, 2, none⟩ (by kernel_rfl) (by kernel_rfl) ((HX.out.below b HX.out.lt).cell 2)) ?_
      refine held_free 11 (.bool true) rfl (by kernel_rfl) (by kernel_rfl) (by kernel_rfl) (by kernel_rfl) B1 (fun _ _ => ex_intleb .i64 3 3 (.tmp 13) (.const (.int .i64 255)) (by kernel_rfl) (id) (255) (by kernel_rfl) (by kernel_rfl) (by kernel_rfl) true (H2.out)) ?_
      refine held_free 12 (.bool true) rfl (by kernel_rfl) (by kernel_rfl) (by kernel_rfl) (by kernel_rfl) B1 (fun _ _ => by kernel_rfl) ?_
      refine held_free 13 (.bool true) rfl (by kernel_rfl) (by kernel_rfl) (by kernel_rfl) (by kernel_rfl) B1 (fun _ _ => by kernel_rfl) ?_
      refine held_free 14 (.pointer (some ⟨b0, 5, none⟩)) rfl (by kernel_rfl) (by kernel_rfl) (by kernel_rfl) (by kernel_rfl) B1 (fun _ _ => ex_field (v := .pointer (some ⟨b0, 0, none⟩)) 24 (.tmp 1) 5 (by kernel_rfl) (by kernel_rfl) (by kernel_rfl)) ?_
      refine held_free 15 (.string mac) rfl (by kernel_rfl) (by kernel_rfl) (by kernel_rfl) (by kernel_rfl) B1 (fun W b => ex_load 9 (.tmp 17) (by kernel_rfl) ⟨b0, 5, none⟩ (by kernel_rfl) (by kernel_rfl) ((HX.out.below b HX.out.lt).cell 5)) ?_
      refine held_free 16 (.int .i64 (mac.size : Int)) rfl (by kernel_rfl) (by kernel_rfl) (by kernel_rfl) (by kernel_rfl) B1 (fun _ _ => by kernel_rfl) ?_
      refine held_free 17 (.pointer (some ⟨b0, 0, none⟩)) rfl (by kernel_rfl) (by kernel_rfl) (by kernel_rfl) (by kernel_rfl) B1 (fun _ _ => ex_field (v := .pointer (some ⟨b0, 0, none⟩)) 24 (.tmp 1) 0 (by kernel_rfl) (by kernel_rfl) (by kernel_rfl)) ?_
      refine held_free 18 (.int .i64 1) rfl (by kernel_rfl) (by kernel_rfl) (by kernel_rfl) (by kernel_rfl) B1 (fun W b => ex_load 3 (.tmp 20) (by kernel_rfl) ⟨b0, 0, none⟩ (by kernel_rfl) (by kernel_rfl) ((HX.out.below b HX.out.lt).cell 0)) ?_
      refine held_free 19 (.pointer (some ⟨0, 2, none⟩)) rfl (by kernel_rfl) (by kernel_rfl) (by kernel_rfl) (by kernel_rfl) B1 (fun _ _ => by kernel_rfl) ?_
      refine held_free 20 (.pointer (some ⟨0, 3, none⟩)) rfl (by kernel_rfl) (by kernel_rfl) (by kernel_rfl) (by kernel_rfl) B1 (fun _ _ => ex_field (v := .pointer (some ⟨0, 2, none⟩)) 58 (.tmp 22) 1 (by kernel_rfl) (by kernel_rfl) (by kernel_rfl)) ?_
      refine held_free 21 (.int .i64 8) rfl (by kernel_rfl) (by kernel_rfl) (by kernel_rfl) (by kernel_rfl) B1 (fun W b => ex_load 3 (.tmp 23) (by kernel_rfl) ⟨0, 3, none⟩ (by kernel_rfl) (by kernel_rfl) ((HT.out.below b).c3)) ?_
      refine held_free 22 (.bool true) rfl (by kernel_rfl) (by kernel_rfl) (by kernel_rfl) (by kernel_rfl) B1 (fun _ _ => ex_inteqb .i64 3 3 (.tmp 19) (.tmp 24) (by kernel_rfl) ((mac.size : Int)) (8) (by kernel_rfl) (by kernel_rfl) (by kernel_rfl) true (H3.out)) ?_
      refine held_free 23 (.bool true) rfl (by kernel_rfl) (by kernel_rfl) (by kernel_rfl) (by kernel_rfl) B1 (fun _ _ => by kernel_rfl) ?_
      refine held_free 24 (.bool true) rfl (by kernel_rfl) (by kernel_rfl) (by kernel_rfl) (by kernel_rfl) B1 (fun _ _ => by kernel_rfl) ?_
      refine held_free 25 (.agg (jnv ⟨1, backup, id, token, nonce, mac⟩)) rfl (by kernel_rfl) (by kernel_rfl) (by kernel_rfl) (by kernel_rfl) B1 (fun W b => exec_row_ 24 (.tmp 1) (by kernel_rfl) b0 (by kernel_rfl) 24 _ (0, 0) _ (HX.out.below b HX.out.lt) Tryd.underlying24 rfl jn_size) ?_
      refine held_free 27 (.agg (jnv Jn.zero)) rfl (by kernel_rfl) (by kernel_rfl) (by kernel_rfl) (by kernel_rfl) B1 (fun _ _ => by kernel_rfl) ?_
      refine held_call 26 rfl (by kernel_rfl) (by kernel_rfl) (by kernel_rfl) (foreign_any ⟨1, backup, id, token, nonce, mac⟩ _) (fun w' h => bel_in B1 h) ?_
      intro W2 hW2
      have B2 := bel_in B1 hW2
      clear hW2 B1
      refine held_free 28 (.bool true) rfl (by kernel_rfl) (by kernel_rfl) (by kernel_rfl) (by kernel_rfl) B2 (fun W b => ex_aggeq 24 24 (.tmp 29) (.tmp 30) (by kernel_rfl) ((jnv (frn ⟨1, backup, id, token, nonce, mac⟩))) ((jnv Jn.zero)) (by kernel_rfl) (by kernel_rfl) (by kernel_rfl) true (jn_equal_b _ _ true H4.out W)) ?_
      refine held_free 29 (.bool true) rfl (by kernel_rfl) (by kernel_rfl) (by kernel_rfl) (by kernel_rfl) B2 (fun _ _ => by kernel_rfl) ?_
      refine held_free 30 (.bool true) rfl (by kernel_rfl) (by kernel_rfl) (by kernel_rfl) (by kernel_rfl) B2 (fun _ _ => by kernel_rfl) ?_
      refine held_end (by kernel_rfl) ?_
      go_wp2_with fail
      rw [HMM.out]
      exact ret_slot 2 (.bool true) (by kernel_rfl) (by kernel_rfl) (by kernel_rfl) ⟨rfl, by have q := HBV.out.trans (B2.mono HBV.out.size); first | exact q | (rw [HB0.out]; exact q)⟩
    · have H0 := Lib.hid (show decide ((0 : Int) ≤ 1 ∧ (1 : Int) < 3) = true by decide)
      have H1 := Lib.hid (decide_eq_true h1)
      have H2 := Lib.hid (decide_eq_true h2)
      have H3 := Lib.hid (show decide ((mac.size : Int) = 8) = true from decide_eq_true (by omega))
      have H4 := Lib.hid (show jeq (frn ⟨1, backup, id, token, nonce, mac⟩) Jn.zero = false from jeq_ne h4)
      have hx0 : Blk V b0 24 (jnv ⟨1, backup, id, token, nonce, mac⟩) := by rw [hV, hb0]; exact Blk.new _ _ _
      have HX := Lib.hid hx0
      have HMM := Lib.hid (show M = false from hM.trans (decide_eq_false fun m => h4 ((frn_zero ⟨1, backup, id, token, nonce, mac⟩ (by simp)).2 m.2.2.2)))
      have HB0 := Lib.hid hb0
      have HVE := Lib.hid hV
      clear hx0 hb0 hV hx hM
      go_enter Tryd.func18, Tryd.ntmps18
      go_upto_region 1 with fail
      rw [← HVE.out, ← HB0.out]
      clear HVE
      have B0 : Below V.heap.size V V.drew := (Below.refl _ V).drew
      refine held_start (fun W => Below V.heap.size V W) (by kernel_rfl) (n := 31) rfl ?_
      obtain ⟨W0, hW0⟩ : ∃ W0, W0 = V.drew := ⟨_, rfl⟩
      rw [← hW0] at B0 ⊢
      clear hW0
      refine held_free 0 (.pointer (some ⟨b0, 0, none⟩)) rfl (by kernel_rfl) (by kernel_rfl) (by kernel_rfl) (by kernel_rfl) B0 (fun _ _ => ex_field (v := .pointer (some ⟨b0, 0, none⟩)) 24 (.tmp 1) 0 (by kernel_rfl) (by kernel_rfl) (by kernel_rfl)) ?_
      refine held_free 1 (.int .i64 1) rfl (by kernel_rfl) (by kernel_rfl) (by kernel_rfl) (by kernel_rfl) B0 (fun W b => ex_load 3 (.tmp 3) (by kernel_rfl) ⟨b0, 0, none⟩ (by kernel_rfl) (by kernel_rfl) ((HX.out.below b HX.out.lt).cell 0)) ?_
      refine held_call 2 rfl (by kernel_rfl) (by kernel_rfl) (by kernel_rfl) (known_b (1) true H0.out _) (fun w' h => bel_in B0 h) ?_
      intro W1 hW1
      have B1 := bel_in B0 hW1
      clear hW1 B0
      refine held_free 3 (.bool true) rfl (by kernel_rfl) (by kernel_rfl) (by kernel_rfl) (by kernel_rfl) B1 (fun _ _ => by kernel_rfl) ?_
      refine held_free 4 (.pointer (some ⟨b0, 2, none⟩)) rfl (by kernel_rfl) (by kernel_rfl) (by kernel_rfl) (by kernel_rfl) B1 (fun _ _ => ex_field (v := .pointer (some ⟨b0, 0, none⟩)) 24 (.tmp 1) 2 (by kernel_rfl) (by kernel_rfl) (by kernel_rfl)) ?_
      refine held_free 5 (.int .i64 id) rfl (by kernel_rfl) (by kernel_rfl) (by kernel_rfl) (by kernel_rfl) B1 (fun W b => ex_load 3 (.tmp 7) (by kernel_rfl) ⟨b0, 2, none⟩ (by kernel_rfl) (by kernel_rfl) ((HX.out.below b HX.out.lt).cell 2)) ?_
      refine held_free 6 (.bool true) rfl (by kernel_rfl) (by kernel_rfl) (by kernel_rfl) (by kernel_rfl) B1 (fun _ _ => ex_intleb .i64 3 3 (.const (.int .i64 0)) (.tmp 8) (by kernel_rfl) (0) (id) (by kernel_rfl) (by kernel_rfl) (by kernel_rfl) true (H1.out)) ?_
      refine held_free 7 (.bool true) rfl (by kernel_rfl) (by kernel_rfl) (by kernel_rfl) (by kernel_rfl) B1 (fun _ _ => by kernel_rfl) ?_
      refine held_free 8 (.bool true) rfl (by kernel_rfl) (by kernel_rfl) (by kernel_rfl) (by kernel_rfl) B1 (fun _ _ => by kernel_rfl) ?_
      refine held_free 9 (.pointer (some ⟨b0, 2, none⟩)) rfl (by kernel_rfl) (by kernel_rfl) (by kernel_rfl) (by kernel_rfl) B1 (fun _ _ => ex_field (v := .pointer (some ⟨b0, 0, none⟩)) 24 (.tmp 1) 2 (by kernel_rfl) (by kernel_rfl) (by kernel_rfl)) ?_
      refine held_free 10 (.int .i64 id) rfl (by kernel_rfl) (by kernel_rfl) (by kernel_rfl) (by kernel_rfl) B1 (fun W b => ex_load 3 (.tmp 12) (by kernel_rfl) ⟨b0, 2, none⟩ (by kernel_rfl) (by kernel_rfl) ((HX.out.below b HX.out.lt).cell 2)) ?_
      refine held_free 11 (.bool true) rfl (by kernel_rfl) (by kernel_rfl) (by kernel_rfl) (by kernel_rfl) B1 (fun _ _ => ex_intleb .i64 3 3 (.tmp 13) (.const (.int .i64 255)) (by kernel_rfl) (id) (255) (by kernel_rfl) (by kernel_rfl) (by kernel_rfl) true (H2.out)) ?_
      refine held_free 12 (.bool true) rfl (by kernel_rfl) (by kernel_rfl) (by kernel_rfl) (by kernel_rfl) B1 (fun _ _ => by kernel_rfl) ?_
      refine held_free 13 (.bool true) rfl (by kernel_rfl) (by kernel_rfl) (by kernel_rfl) (by kernel_rfl) B1 (fun _ _ => by kernel_rfl) ?_
      refine held_free 14 (.pointer (some ⟨b0, 5, none⟩)) rfl (by kernel_rfl) (by kernel_rfl) (by kernel_rfl) (by kernel_rfl) B1 (fun _ _ => ex_field (v := .pointer (some ⟨b0, 0, none⟩)) 24 (.tmp 1) 5 (by kernel_rfl) (by kernel_rfl) (by kernel_rfl)) ?_
      refine held_free 15 (.string mac) rfl (by kernel_rfl) (by kernel_rfl) (by kernel_rfl) (by kernel_rfl) B1 (fun W b => ex_load 9 (.tmp 17) (by kernel_rfl) ⟨b0, 5, none⟩ (by kernel_rfl) (by kernel_rfl) ((HX.out.below b HX.out.lt).cell 5)) ?_
      refine held_free 16 (.int .i64 (mac.size : Int)) rfl (by kernel_rfl) (by kernel_rfl) (by kernel_rfl) (by kernel_rfl) B1 (fun _ _ => by kernel_rfl) ?_
      refine held_free 17 (.pointer (some ⟨b0, 0, none⟩)) rfl (by kernel_rfl) (by kernel_rfl) (by kernel_rfl) (by kernel_rfl) B1 (fun _ _ => ex_field (v := .pointer (some ⟨b0, 0, none⟩)) 24 (.tmp 1) 0 (by kernel_rfl) (by kernel_rfl) (by kernel_rfl)) ?_
      refine held_free 18 (.int .i64 1) rfl (by kernel_rfl) (by kernel_rfl) (by kernel_rfl) (by kernel_rfl) B1 (fun W b => ex_load 3 (.tmp 20) (by kernel_rfl) ⟨b0, 0, none⟩ (by kernel_rfl) (by kernel_rfl) ((HX.out.below b HX.out.lt).cell 0)) ?_
      refine held_free 19 (.pointer (some ⟨0, 2, none⟩)) rfl (by kernel_rfl) (by kernel_rfl) (by kernel_rfl) (by kernel_rfl) B1 (fun _ _ => by kernel_rfl) ?_
      refine held_free 20 (.pointer (some ⟨0, 3, none⟩)) rfl (by kernel_rfl) (by kernel_rfl) (by kernel_rfl) (by kernel_rfl) B1 (fun _ _ => ex_field (v := .pointer (some ⟨0, 2, none⟩)) 58 (.tmp 22) 1 (by kernel_rfl) (by kernel_rfl) (by kernel_rfl)) ?_
      refine held_free 21 (.int .i64 8) rfl (by kernel_rfl) (by kernel_rfl) (by kernel_rfl) (by kernel_rfl) B1 (fun W b => ex_load 3 (.tmp 23) (by kernel_rfl) ⟨0, 3, none⟩ (by kernel_rfl) (by kernel_rfl) ((HT.out.below b).c3)) ?_
      refine held_free 22 (.bool true) rfl (by kernel_rfl) (by kernel_rfl) (by kernel_rfl) (by kernel_rfl) B1 (fun _ _ => ex_inteqb .i64 3 3 (.tmp 19) (.tmp 24) (by kernel_rfl) ((mac.size : Int)) (8) (by kernel_rfl) (by kernel_rfl) (by kernel_rfl) true (H3.out)) ?_
      refine held_free 23 (.bool true) rfl (by kernel_rfl) (by kernel_rfl) (by kernel_rfl) (by kernel_rfl) B1 (fun _ _ => by kernel_rfl) ?_
      refine held_free 24 (.bool true) rfl (by kernel_rfl) (by kernel_rfl) (by kernel_rfl) (by kernel_rfl) B1 (fun _ _ => by kernel_rfl) ?_
      refine held_free 25 (.agg (jnv ⟨1, backup, id, token, nonce, mac⟩)) rfl (by kernel_rfl) (by kernel_rfl) (by kernel_rfl) (by kernel_rfl) B1 (fun W b => exec_row_ 24 (.tmp 1) (by kernel_rfl) b0 (by kernel_rfl) 24 _ (0, 0) _ (HX.out.below b HX.out.lt) Tryd.underlying24 rfl jn_size) ?_
      refine held_free 27 (.agg (jnv Jn.zero)) rfl (by kernel_rfl) (by kernel_rfl) (by kernel_rfl) (by kernel_rfl) B1 (fun _ _ => by kernel_rfl) ?_
      refine held_call 26 rfl (by kernel_rfl) (by kernel_rfl) (by kernel_rfl) (foreign_any ⟨1, backup, id, token, nonce, mac⟩ _) (fun w' h => bel_in B1 h) ?_
      intro W2 hW2
      have B2 := bel_in B1 hW2
      clear hW2 B1
      refine held_free 28 (.bool false) rfl (by kernel_rfl) (by kernel_rfl) (by kernel_rfl) (by kernel_rfl) B2 (fun W b => ex_aggeq 24 24 (.tmp 29) (.tmp 30) (by kernel_rfl) ((jnv (frn ⟨1, backup, id, token, nonce, mac⟩))) ((jnv Jn.zero)) (by kernel_rfl) (by kernel_rfl) (by kernel_rfl) false (jn_equal_b _ _ false H4.out W)) ?_
      refine held_free 29 (.bool false) rfl (by kernel_rfl) (by kernel_rfl) (by kernel_rfl) (by kernel_rfl) B2 (fun _ _ => by kernel_rfl) ?_
      refine held_free 30 (.bool false) rfl (by kernel_rfl) (by kernel_rfl) (by kernel_rfl) (by kernel_rfl) B2 (fun _ _ => by kernel_rfl) ?_
      refine held_end (by kernel_rfl) ?_
      go_wp2_with fail
      rw [HMM.out]
      exact ret_slot 2 (.bool false) (by kernel_rfl) (by kernel_rfl) (by kernel_rfl) ⟨rfl, by have q := HBV.out.trans (B2.mono HBV.out.size); first | exact q | (rw [HB0.out]; exact q)⟩
  · have H0 := Lib.hid (show decide ((0 : Int) ≤ 1 ∧ (1 : Int) < 3) = true by decide)
    have H1 := Lib.hid (decide_eq_true h1)
    have H2 := Lib.hid (decide_eq_true h2)
    have H3 := Lib.hid (show decide ((mac.size : Int) = 8) = false from decide_eq_false (by omega))
    have hx0 : Blk V b0 24 (jnv ⟨1, backup, id, token, nonce, mac⟩) := by rw [hV, hb0]; exact Blk.new _ _ _
    have HX := Lib.hid hx0
    have HMM := Lib.hid (show M = false from hM.trans (decide_eq_false fun m => h3 (show mac.size = 8 from m.2.2.1)))
    have HB0 := Lib.hid hb0
    have HVE := Lib.hid hV
    clear hx0 hb0 hV hx hM
    go_enter Tryd.func18, Tryd.ntmps18
    go_upto_region 1 with fail
    rw [← HVE.out, ← HB0.out]
    clear HVE
    have B0 : Below V.heap.size V V.drew := (Below.refl _ V).drew
    refine held_start (fun W => Below V.heap.size V W) (by kernel_rfl) (n := 31) rfl ?_
    obtain ⟨W0, hW0⟩ : ∃ W0, W0 = V.drew := ⟨_, rfl⟩
    rw [← hW0] at B0 ⊢
    clear hW0
    refine held_free 0 (.pointer (some ⟨b0, 0, none⟩)) rfl (by kernel_rfl) (by kernel_rfl) (by kernel_rfl) (by kernel_rfl) B0 (fun _ _ => ex_field (v := .pointer (some ⟨b0, 0, none⟩)) 24 (.tmp 1) 0 (by kernel_rfl) (by kernel_rfl) (by kernel_rfl)) ?_
    refine held_free 1 (.int .i64 1) rfl (by kernel_rfl) (by kernel_rfl) (by kernel_rfl) (by kernel_rfl) B0 (fun W b => ex_load 3 (.tmp 3) (by kernel_rfl) ⟨b0, 0, none⟩ (by kernel_rfl) (by kernel_rfl) ((HX.out.below b HX.out.lt).cell 0)) ?_
    refine held_call 2 rfl (by kernel_rfl) (by kernel_rfl) (by kernel_rfl) (known_b (1) true H0.out _) (fun w' h => bel_in B0 h) ?_
    intro W1 hW1
    have B1 := bel_in B0 hW1
    clear hW1 B0
    refine held_free 3 (.bool true) rfl (by kernel_rfl) (by kernel_rfl) (by kernel_rfl) (by kernel_rfl) B1 (fun _ _ => by kernel_rfl) ?_
    refine held_free 4 (.pointer (some ⟨b0, 2, none⟩)) rfl (by kernel_rfl) (by kernel_rfl) (by kernel_rfl) (by kernel_rfl) B1 (fun _ _ => ex_field (v := .pointer (some ⟨b0, 0, none⟩)) 24 (.tmp 1) 2 (by kernel_rfl) (by kernel_rfl) (by kernel_rfl)) ?_
    refine held_free 5 (.int .i64 id) rfl (by kernel_rfl) (by kernel_rfl) (by kernel_rfl) (by kernel_rfl) B1 (fun W b => ex_load 3 (.tmp 7) (by kernel_rfl) ⟨b0, 2, none⟩ (by kernel_rfl) (by kernel_rfl) ((HX.out.below b HX.out.lt).cell 2)) ?_
    refine held_free 6 (.bool true) rfl (by kernel_rfl) (by kernel_rfl) (by kernel_rfl) (by kernel_rfl) B1 (fun _ _ => ex_intleb .i64 3 3 (.const (.int .i64 0)) (.tmp 8) (by kernel_rfl) (0) (id) (by kernel_rfl) (by kernel_rfl) (by kernel_rfl) true (H1.out)) ?_
    refine held_free 7 (.bool true) rfl (by kernel_rfl) (by kernel_rfl) (by kernel_rfl) (by kernel_rfl) B1 (fun _ _ => by kernel_rfl) ?_
    refine held_free 8 (.bool true) rfl (by kernel_rfl) (by kernel_rfl) (by kernel_rfl) (by kernel_rfl) B1 (fun _ _ => by kernel_rfl) ?_
    refine held_free 9 (.pointer (some ⟨b0, 2, none⟩)) rfl (by kernel_rfl) (by kernel_rfl) (by kernel_rfl) (by kernel_rfl) B1 (fun _ _ => ex_field (v := .pointer (some ⟨b0, 0, none⟩)) 24 (.tmp 1) 2 (by kernel_rfl) (by kernel_rfl) (by kernel_rfl)) ?_
    refine held_free 10 (.int .i64 id) rfl (by kernel_rfl) (by kernel_rfl) (by kernel_rfl) (by kernel_rfl) B1 (fun W b => ex_load 3 (.tmp 12) (by kernel_rfl) ⟨b0, 2, none⟩ (by kernel_rfl) (by kernel_rfl) ((HX.out.below b HX.out.lt).cell 2)) ?_
    refine held_free 11 (.bool true) rfl (by kernel_rfl) (by kernel_rfl) (by kernel_rfl) (by kernel_rfl) B1 (fun _ _ => ex_intleb .i64 3 3 (.tmp 13) (.const (.int .i64 255)) (by kernel_rfl) (id) (255) (by kernel_rfl) (by kernel_rfl) (by kernel_rfl) true (H2.out)) ?_
    refine held_free 12 (.bool true) rfl (by kernel_rfl) (by kernel_rfl) (by kernel_rfl) (by kernel_rfl) B1 (fun _ _ => by kernel_rfl) ?_
    refine held_free 13 (.bool true) rfl (by kernel_rfl) (by kernel_rfl) (by kernel_rfl) (by kernel_rfl) B1 (fun _ _ => by kernel_rfl) ?_
    refine held_free 14 (.pointer (some ⟨b0, 5, none⟩)) rfl (by kernel_rfl) (by kernel_rfl) (by kernel_rfl) (by kernel_rfl) B1 (fun _ _ => ex_field (v := .pointer (some ⟨b0, 0, none⟩)) 24 (.tmp 1) 5 (by kernel_rfl) (by kernel_rfl) (by kernel_rfl)) ?_
    refine held_free 15 (.string mac) rfl (by kernel_rfl) (by kernel_rfl) (by kernel_rfl) (by kernel_rfl) B1 (fun W b => ex_load 9 (.tmp 17) (by kernel_rfl) ⟨b0, 5, none⟩ (by kernel_rfl) (by kernel_rfl) ((HX.out.below b HX.out.lt).cell 5)) ?_
    refine held_free 16 (.int .i64 (mac.size : Int)) rfl (by kernel_rfl) (by kernel_rfl) (by kernel_rfl) (by kernel_rfl) B1 (fun _ _ => by kernel_rfl) ?_
    refine held_free 17 (.pointer (some ⟨b0, 0, none⟩)) rfl (by kernel_rfl) (by kernel_rfl) (by kernel_rfl) (by kernel_rfl) B1 (fun _ _ => ex_field (v := .pointer (some ⟨b0, 0, none⟩)) 24 (.tmp 1) 0 (by kernel_rfl) (by kernel_rfl) (by kernel_rfl)) ?_
    refine held_free 18 (.int .i64 1) rfl (by kernel_rfl) (by kernel_rfl) (by kernel_rfl) (by kernel_rfl) B1 (fun W b => ex_load 3 (.tmp 20) (by kernel_rfl) ⟨b0, 0, none⟩ (by kernel_rfl) (by kernel_rfl) ((HX.out.below b HX.out.lt).cell 0)) ?_
    refine held_free 19 (.pointer (some ⟨0, 2, none⟩)) rfl (by kernel_rfl) (by kernel_rfl) (by kernel_rfl) (by kernel_rfl) B1 (fun _ _ => by kernel_rfl) ?_
    refine held_free 20 (.pointer (some ⟨0, 3, none⟩)) rfl (by kernel_rfl) (by kernel_rfl) (by kernel_rfl) (by kernel_rfl) B1 (fun _ _ => ex_field (v := .pointer (some ⟨0, 2, none⟩)) 58 (.tmp 22) 1 (by kernel_rfl) (by kernel_rfl) (by kernel_rfl)) ?_
    refine held_free 21 (.int .i64 8) rfl (by kernel_rfl) (by kernel_rfl) (by kernel_rfl) (by kernel_rfl) B1 (fun W b => ex_load 3 (.tmp 23) (by kernel_rfl) ⟨0, 3, none⟩ (by kernel_rfl) (by kernel_rfl) ((HT.out.below b).c3)) ?_
    refine held_free 22 (.bool false) rfl (by kernel_rfl) (by kernel_rfl) (by kernel_rfl) (by kernel_rfl) B1 (fun _ _ => ex_inteqb .i64 3 3 (.tmp 19) (.tmp 24) (by kernel_rfl) ((mac.size : Int)) (8) (by kernel_rfl) (by kernel_rfl) (by kernel_rfl) false (H3.out)) ?_
    refine held_free 23 (.bool false) rfl (by kernel_rfl) (by kernel_rfl) (by kernel_rfl) (by kernel_rfl) B1 (fun _ _ => by kernel_rfl) ?_
    refine held_free 24 (.bool false) rfl (by kernel_rfl) (by kernel_rfl) (by kernel_rfl) (by kernel_rfl) B1 (fun _ _ => by kernel_rfl) ?_
    refine held_pass 25 rfl (by kernel_rfl) (by kernel_rfl) (by kernel_rfl) (by kernel_rfl) B1 ?_
    refine held_pass 26 rfl (by kernel_rfl) (by kernel_rfl) (by kernel_rfl) (by kernel_rfl) B1 ?_
    refine held_pass 27 rfl (by kernel_rfl) (by kernel_rfl) (by kernel_rfl) (by kernel_rfl) B1 ?_
    refine held_pass 28 rfl (by kernel_rfl) (by kernel_rfl) (by kernel_rfl) (by kernel_rfl) B1 ?_
    refine held_free 29 (.bool false) rfl (by kernel_rfl) (by kernel_rfl) (by kernel_rfl) (by kernel_rfl) B1 (fun _ _ => by kernel_rfl) ?_
    refine held_free 30 (.bool false) rfl (by kernel_rfl) (by kernel_rfl) (by kernel_rfl) (by kernel_rfl) B1 (fun _ _ => by kernel_rfl) ?_
    refine held_end (by kernel_rfl) ?_
    go_wp2_with fail
    rw [HMM.out]
    exact ret_slot 2 (.bool false) (by kernel_rfl) (by kernel_rfl) (by kernel_rfl) ⟨rfl, by have q := HBV.out.trans (B1.mono HBV.out.size); first | exact q | (rw [HB0.out]; exact q)⟩
set_option maxHeartbeats 1000000 in
set_option maxRecDepth 100000 in
theorem valid_2 (backup : Bool) (id : Int) (token nonce : Nat) (mac : ByteArray) (hx : Jn.Ok ⟨2, backup, id, token, nonce, mac⟩) (w : World) (ht : Tbl w) (h1 : 0 ≤ id) (h2 : id ≤ 255) :
    Calls Tryd.prog 18 #[.agg (jnv ⟨2, backup, id, token, nonce, mac⟩)] w fun e w' => e = .returned (.bool (decide (Jn.May ⟨2, backup, id, token, nonce, mac⟩))) ∧ Below w.heap.size w w' := by
  obtain ⟨V, hV⟩ : ∃ V, V = w.alloc (.cells (jnv ⟨2, backup, id, token, nonce, mac⟩) 24) := ⟨_, rfl⟩
  obtain ⟨b0, hb0⟩ : ∃ b0, b0 = w.heap.size := ⟨_, rfl⟩
  obtain ⟨M, hM⟩ : ∃ M, M = decide (Jn.May ⟨2, backup, id, token, nonce, mac⟩) := ⟨_, rfl⟩
  rw [← hM]
  have htv : Tbl V := by rw [hV]; exact ht.alloc _
  have HT := Lib.hid htv
  have HBV := Lib.hid (show Below w.heap.size w V by rw [hV]; exact (Below.refl _ w).alloc (Nat.le_refl _) _)
  clear ht htv
  by_cases h3 : mac.size = 20
  · by_cases h4 : frn ⟨2, backup, id, token, nonce, mac⟩ = Jn.zero
    · have H0 := Lib.hid (show decide ((0 : Int) ≤ 2 ∧ (2 : Int) < 3) = true by decide)
      have H1 := Lib.hid (decide_eq_true h1)
      have H2 := Lib.hid (decide_eq_true h2)
      have H3 := Lib.hid (show decide ((mac.size : Int) = 20) = true from decide_eq_true (by omega))
      have H4 := Lib.hid (show jeq (frn ⟨2, backup, id, token, nonce, mac⟩) Jn.zero = true from (jeq_iff _ _).2 h4)
      have hx0 : Blk V b0 24 (jnv ⟨2, backup, id, token, nonce, mac⟩) := by rw [hV, hb0]; exact Blk.new _ _ _
      have HX := Lib.hid hx0
      have HMM := Lib.hid (show M = true from hM.trans (decide_eq_true ⟨by simp, ⟨h1, h2⟩, h3, (frn_zero ⟨2, backup, id, token, nonce, mac⟩ (by simp)).1 h4⟩))
      have HB0 := Lib.hid hb0
      have HVE := Lib.hid hV
      clear hx0 hb0 hV hx hM
      go_enter Tryd.func18, Tryd.ntmps18
      go_upto_region 1 with fail
      rw [← HVE.out, ← HB0.out]
      clear HVE
      have B0 : Below V.heap.size V V.drew := (Below.refl _ V).drew
      refine held_start (fun W => Below V.heap.size V W) (by kernel_rfl) (n := 31) rfl ?_
      obtain ⟨W0, hW0⟩ : ∃ W0, W0 = V.drew := ⟨_, rfl⟩
      rw [← hW0] at B0 ⊢
      clear hW0
      refine held_free 0 (.pointer (some ⟨b0, 0, none⟩)) rfl (by kernel_rfl) (by kernel_rfl) (by kernel_rfl) (by kernel_rfl) B0 (fun _ _ => ex_field (v := .pointer (some ⟨b0, 0, none⟩)) 24 (.tmp 1) 0 (by kernel_rfl) (by kernel_rfl) (by kernel_rfl)) ?_
      refine held_free 1 (.int .i64 2) rfl (by kernel_rfl) (by kernel_rfl) (by kernel_rfl) (by kernel_rfl) B0 (fun W b => ex_load 3 (.tmp 3) (by kernel_rfl) ⟨b0, 0, none⟩ (by kernel_rfl) (by kernel_rfl) ((HX.out.below b HX.out.lt).cell 0)) ?_
      refine held_call 2 rfl (by kernel_rfl) (by kernel_rfl) (by kernel_rfl) (known_b (2) true H0.out _) (fun w' h => bel_in B0 h) ?_
      intro W1 hW1
      have B1 := bel_in B0 hW1
      clear hW1 B0
      refine held_free 3 (.bool true) rfl (by kernel_rfl) (by kernel_rfl) (by kernel_rfl) (by kernel_rfl) B1 (fun _ _ => by kernel_rfl) ?_
      refine held_free 4 (.pointer (some ⟨b0, 2, none⟩)) rfl (by kernel_rfl) (by kernel_rfl) (by kernel_rfl) (by kernel_rfl) B1 (fun _ _ => ex_field (v := .pointer (some ⟨b0, 0, none⟩)) 24 (.tmp 1) 2 (by kernel_rfl) (by kernel_rfl) (by kernel_rfl)) ?_
      refine held_free 5 (.int .i64 id) rfl (by kernel_rfl) (by kernel_rfl) (by kernel_rfl) (by kernel_rfl) B1 (fun W b => ex_load 3 (.tmp 7) (by kernel_rfl) ⟨b0, 2, none⟩ (by kernel_rfl) (by kernel_rfl) ((HX.out.below b HX.out.lt).cell 2)) ?_
      refine held_free 6 (.bool true) rfl (by kernel_rfl) (by kernel_rfl) (by kernel_rfl) (by kernel_rfl) B1 (fun _ _ => ex_intleb .i64 3 3 (.const (.int .i64 0)) (.tmp 8) (by kernel_rfl) (0) (id) (by kernel_rfl) (by kernel_rfl) (by kernel_rfl) true (H1.out)) ?_
      refine held_free 7 (.bool true) rfl (by kernel_rfl) (by kernel_rfl) (by kernel_rfl) (by kernel_rfl) B1 (fun _ _ => by kernel_rfl) ?_
      refine held_free 8 (.bool true) rfl (by kernel_rfl) (by kernel_rfl) (by kernel_rfl) (by kernel_rfl) B1 (fun _ _ => by kernel_rfl) ?_
      refine held_free 9 (.pointer (some ⟨b0, 2, none⟩)) rfl (by kernel_rfl) (by kernel_rfl) (by kernel_rfl) (by kernel_rfl) B1 (fun _ _ => ex_field (v := .pointer (some ⟨b0, 0, none⟩)) 24 (.tmp 1) 2 (by kernel_rfl) (by kernel_rfl) (by kernel_rfl)) ?_
      refine held_free 10 (.int .i64 id) rfl (by kernel_rfl) (by kernel_rfl) (by kernel_rfl) (by kernel_rfl) B1 (fun W b => ex_load 3 (.tmp 12) (by kernel_rfl) ⟨b0, 2, none⟩ (by kernel_rfl) (by kernel_rfl) ((HX.out.below b HX.out.lt).cell 2)) ?_
      refine held_free 11 (.bool true) rfl (by kernel_rfl) (by kernel_rfl) (by kernel_rfl) (by kernel_rfl) B1 (fun _ _ => ex_intleb .i64 3 3 (.tmp 13) (.const (.int .i64 255)) (by kernel_rfl) (id) (255) (by kernel_rfl) (by kernel_rfl) (by kernel_rfl) true (H2.out)) ?_
      refine held_free 12 (.bool true) rfl (by kernel_rfl) (by kernel_rfl) (by kernel_rfl) (by kernel_rfl) B1 (fun _ _ => by kernel_rfl) ?_
      refine held_free 13 (.bool true) rfl (by kernel_rfl) (by kernel_rfl) (by kernel_rfl) (by kernel_rfl) B1 (fun _ _ => by kernel_rfl) ?_
      refine held_free 14 (.pointer (some ⟨b0, 5, none⟩)) rfl (by kernel_rfl) (by kernel_rfl) (by kernel_rfl) (by kernel_rfl) B1 (fun _ _ => ex_field (v := .pointer (some ⟨b0, 0, none⟩)) 24 (.tmp 1) 5 (by kernel_rfl) (by kernel_rfl) (by kernel_rfl)) ?_
      refine held_free 15 (.string mac) rfl (by kernel_rfl) (by kernel_rfl) (by kernel_rfl) (by kernel_rfl) B1 (fun W b => ex_load 9 (.tmp 17) (by kernel_rfl) ⟨b0, 5, none⟩ (by kernel_rfl) (by kernel_rfl) ((HX.out.below b HX.out.lt).cell 5)) ?_
      refine held_free 16 (.int .i64 (mac.size : Int)) rfl (by kernel_rfl) (by kernel_rfl) (by kernel_rfl) (by kernel_rfl) B1 (fun _ _ => by kernel_rfl) ?_
      refine held_free 17 (.pointer (some ⟨b0, 0, none⟩)) rfl (by kernel_rfl) (by kernel_rfl) (by kernel_rfl) (by kernel_rfl) B1 (fun _ _ => ex_field (v := .pointer (some ⟨b0, 0, none⟩)) 24 (.tmp 1) 0 (by kernel_rfl) (by kernel_rfl) (by kernel_rfl)) ?_
      refine held_free 18 (.int .i64 2) rfl (by kernel_rfl) (by kernel_rfl) (by kernel_rfl) (by kernel_rfl) B1 (fun W b => ex_load 3 (.tmp 20) (by kernel_rfl) ⟨b0, 0, none⟩ (by kernel_rfl) (by kernel_rfl) ((HX.out.below b HX.out.lt).cell 0)) ?_
      refine held_free 19 (.pointer (some ⟨0, 4, none⟩)) rfl (by kernel_rfl) (by kernel_rfl) (by kernel_rfl) (by kernel_rfl) B1 (fun _ _ => by kernel_rfl) ?_
      refine held_free 20 (.pointer (some ⟨0, 5, none⟩)) rfl (by kernel_rfl) (by kernel_rfl) (by kernel_rfl) (by kernel_rfl) B1 (fun _ _ => ex_field (v := .pointer (some ⟨0, 4, none⟩)) 58 (.tmp 22) 1 (by kernel_rfl) (by kernel_rfl) (by kernel_rfl)) ?_
      refine held_free 21 (.int .i64 20) rfl (by kernel_rfl) (by kernel_rfl) (by kernel_rfl) (by kernel_rfl) B1 (fun W b => ex_load 3 (.tmp 23) (by kernel_rfl) ⟨0, 5, none⟩ (by kernel_rfl) (by kernel_rfl) ((HT.out.below b).c5)) ?_
      refine held_free 22 (.bool true) rfl (by kernel_rfl) (by kernel_rfl) (by kernel_rfl) (by kernel_rfl) B1 (fun _ _ => ex_inteqb .i64 3 3 (.tmp 19) (.tmp 24) (by kernel_rfl) ((mac.size : Int)) (20) (by kernel_rfl) (by kernel_rfl) (by kernel_rfl) true (H3.out)) ?_
      refine held_free 23 (.bool true) rfl (by kernel_rfl) (by kernel_rfl) (by kernel_rfl) (by kernel_rfl) B1 (fun _ _ => by kernel_rfl) ?_
      refine held_free 24 (.bool true) rfl (by kernel_rfl) (by kernel_rfl) (by kernel_rfl) (by kernel_rfl) B1 (fun _ _ => by kernel_rfl) ?_
      refine held_free 25 (.agg (jnv ⟨2, backup, id, token, nonce, mac⟩)) rfl (by kernel_rfl) (by kernel_rfl) (by kernel_rfl) (by kernel_rfl) B1 (fun W b => exec_row_ 24 (.tmp 1) (by kernel_rfl) b0 (by kernel_rfl) 24 _ (0, 0) _ (HX.out.below b HX.out.lt) Tryd.underlying24 rfl jn_size) ?_
      refine held_free 27 (.agg (jnv Jn.zero)) rfl (by kernel_rfl) (by kernel_rfl) (by kernel_rfl) (by kernel_rfl) B1 (fun _ _ => by kernel_rfl) ?_
      refine held_call 26 rfl (by kernel_rfl) (by kernel_rfl) (by kernel_rfl) (foreign_any ⟨2, backup, id, token, nonce, mac⟩ _) (fun w' h => bel_in B1 h) ?_
      intro W2 hW2
      have B2 := bel_in B1 hW2
      clear hW2 B1
      refine held_free 28 (.bool true) rfl (by kernel_rfl) (by kernel_rfl) (by kernel_rfl) (by kernel_rfl) B2 (fun W b => ex_aggeq 24 24 (.tmp 29) (.tmp 30) (by kernel_rfl) ((jnv (frn ⟨2, backup, id, token, nonce, mac⟩))) ((jnv Jn.zero)) (by kernel_rfl) (by kernel_rfl) (by kernel_rfl) true (jn_equal_b _ _ true H4.out W)) ?_
      refine held_free 29 (.bool true) rfl (by kernel_rfl) (by kernel_rfl) (by kernel_rfl) (by kernel_rfl) B2 (fun _ _ => by kernel_rfl) ?_
      refine held_free 30 (.bool true) rfl (by kernel_rfl) (by kernel_rfl) (by kernel_rfl) (by kernel_rfl) B2 (fun _ _ => by kernel_rfl) ?_
      refine held_end (by kernel_rfl) ?_
      go_wp2_with fail
      rw [HMM.out]
      exact ret_slot 2 (.bool true) (by kernel_rfl) (by kernel_rfl) (by kernel_rfl) ⟨rfl, by have q := HBV.out.trans (B2.mono HBV.out.size); first | exact q | (rw [HB0.out]; exact q)⟩
    · have H0 := Lib.hid (show decide ((0 : Int) ≤ 2 ∧ (2 : Int) < 3) = true by decide)
      have H1 := Lib.hid (decide_eq_true h1)
      have H2 := Lib.hid (decide_eq_true h2)
      have H3 := Lib.hid (show decide ((mac.size : Int) = 20) = true from decide_eq_true (by omega))
      have H4 := Lib.hid (show jeq (frn ⟨2, backup, id, token, nonce, mac⟩) Jn.zero = false from jeq_ne h4)
      have hx0 : Blk V b0 24 (jnv ⟨2, backup, id, token, nonce, mac⟩) := by rw [hV, hb0]; exact Blk.new _ _ _
      have HX := Lib.hid hx0
      have HMM := Lib.hid (show M = false from hM.trans (decide_eq_false fun m => h4 ((frn_zero ⟨2, backup, id, token, nonce, mac⟩ (by simp)).2 m.2.2.2)))
      have HB0 := Lib.hid hb0
      have HVE := Lib.hid hV
      clear hx0 hb0 hV hx hM
      go_enter Tryd.func18, Tryd.ntmps18
      go_upto_region 1 with fail
      rw [← HVE.out, ← HB0.out]
      clear HVE
      have B0 : Below V.heap.size V V.drew := (Below.refl _ V).drew
      refine held_start (fun W => Below V.heap.size V W) (by kernel_rfl) (n := 31) rfl ?_
      obtain ⟨W0, hW0⟩ : ∃ W0, W0 = V.drew := ⟨_, rfl⟩
      rw [← hW0] at B0 ⊢
      clear hW0
      refine held_free 0 (.pointer (some ⟨b0, 0, none⟩)) rfl (by kernel_rfl) (by kernel_rfl) (by kernel_rfl) (by kernel_rfl) B0 (fun _ _ => ex_field (v := .pointer (some ⟨b0, 0, none⟩)) 24 (.tmp 1) 0 (by kernel_rfl) (by kernel_rfl) (by kernel_rfl)) ?_
      refine held_free 1 (.int .i64 2) rfl (by kernel_rfl) (by kernel_rfl) (by kernel_rfl) (by kernel_rfl) B0 (fun W b => ex_load 3 (.tmp 3) (by kernel_rfl) ⟨b0, 0, none⟩ (by kernel_rfl) (by kernel_rfl) ((HX.out.below b HX.out.lt).cell 0)) ?_
      refine held_call 2 rfl (by kernel_rfl) (by kernel_rfl) (by kernel_rfl) (known_b (2) true H0.out _) (fun w' h => bel_in B0 h) ?_
      intro W1 hW1
      have B1 := bel_in B0 hW1
      clear hW1 B0
      refine held_free 3 (.bool true) rfl (by kernel_rfl) (by kernel_rfl) (by kernel_rfl) (by kernel_rfl) B1 (fun _ _ => by kernel_rfl) ?_
      refine held_free 4 (.pointer (some ⟨b0, 2, none⟩)) rfl (by kernel_rfl) (by kernel_rfl) (by kernel_rfl) (by kernel_rfl) B1 (fun _ _ => ex_field (v := .pointer (some ⟨b0, 0, none⟩)) 24 (.tmp 1) 2 (by kernel_rfl) (by kernel_rfl) (by kernel_rfl)) ?_
      refine held_free 5 (.int .i64 id) rfl (by kernel_rfl) (by kernel_rfl) (by kernel_rfl) (by kernel_rfl) B1 (fun W b => ex_load 3 (.tmp 7) (by kernel_rfl) ⟨b0, 2, none⟩ (by kernel_rfl) (by kernel_rfl) ((HX.out.below b HX.out.lt).cell 2)) ?_
      refine held_free 6 (.bool true) rfl (by kernel_rfl) (by kernel_rfl) (by kernel_rfl) (by kernel_rfl) B1 (fun _ _ => ex_intleb .i64 3 3 (.const (.int .i64 0)) (.tmp 8) (by kernel_rfl) (0) (id) (by kernel_rfl) (by kernel_rfl) (by kernel_rfl) true (H1.out)) ?_
      refine held_free 7 (.bool true) rfl (by kernel_rfl) (by kernel_rfl) (by kernel_rfl) (by kernel_rfl) B1 (fun _ _ => by kernel_rfl) ?_
      refine held_free 8 (.bool true) rfl (by kernel_rfl) (by kernel_rfl) (by kernel_rfl) (by kernel_rfl) B1 (fun _ _ => by kernel_rfl) ?_
      refine held_free 9 (.pointer (some ⟨b0, 2, none⟩)) rfl (by kernel_rfl) (by kernel_rfl) (by kernel_rfl) (by kernel_rfl) B1 (fun _ _ => ex_field (v := .pointer (some ⟨b0, 0, none⟩)) 24 (.tmp 1) 2 (by kernel_rfl) (by kernel_rfl) (by kernel_rfl)) ?_
      refine held_free 10 (.int .i64 id) rfl (by kernel_rfl) (by kernel_rfl) (by kernel_rfl) (by kernel_rfl) B1 (fun W b => ex_load 3 (.tmp 12) (by kernel_rfl) ⟨b0, 2, none⟩ (by kernel_rfl) (by kernel_rfl) ((HX.out.below b HX.out.lt).cell 2)) ?_
      refine held_free 11 (.bool true) rfl (by kernel_rfl) (by kernel_rfl) (by kernel_rfl) (by kernel_rfl) B1 (fun _ _ => ex_intleb .i64 3 3 (.tmp 13) (.const (.int .i64 255)) (by kernel_rfl) (id) (255) (by kernel_rfl) (by kernel_rfl) (by kernel_rfl) true (H2.out)) ?_
      refine held_free 12 (.bool true) rfl (by kernel_rfl) (by kernel_rfl) (by kernel_rfl) (by kernel_rfl) B1 (fun _ _ => by kernel_rfl) ?_
      refine held_free 13 (.bool true) rfl (by kernel_rfl) (by kernel_rfl) (by kernel_rfl) (by kernel_rfl) B1 (fun _ _ => by kernel_rfl) ?_
      refine held_free 14 (.pointer (some ⟨b0, 5, none⟩)) rfl (by kernel_rfl) (by kernel_rfl) (by kernel_rfl) (by kernel_rfl) B1 (fun _ _ => ex_field (v := .pointer (some ⟨b0, 0, none⟩)) 24 (.tmp 1) 5 (by kernel_rfl) (by kernel_rfl) (by kernel_rfl)) ?_
      refine held_free 15 (.string mac) rfl (by kernel_rfl) (by kernel_rfl) (by kernel_rfl) (by kernel_rfl) B1 (fun W b => ex_load 9 (.tmp 17) (by kernel_rfl) ⟨b0, 5, none⟩ (by kernel_rfl) (by kernel_rfl) ((HX.out.below b HX.out.lt).cell 5)) ?_
      refine held_free 16 (.int .i64 (mac.size : Int)) rfl (by kernel_rfl) (by kernel_rfl) (by kernel_rfl) (by kernel_rfl) B1 (fun _ _ => by kernel_rfl) ?_
      refine held_free 17 (.pointer (some ⟨b0, 0, none⟩)) rfl (by kernel_rfl) (by kernel_rfl) (by kernel_rfl) (by kernel_rfl) B1 (fun _ _ => ex_field (v := .pointer (some ⟨b0, 0, none⟩)) 24 (.tmp 1) 0 (by kernel_rfl) (by kernel_rfl) (by kernel_rfl)) ?_
      refine held_free 18 (.int .i64 2) rfl (by kernel_rfl) (by kernel_rfl) (by kernel_rfl) (by kernel_rfl) B1 (fun W b => ex_load 3 (.tmp 20) (by kernel_rfl) ⟨b0, 0, none⟩ (by kernel_rfl) (by kernel_rfl) ((HX.out.below b HX.out.lt).cell 0)) ?_
      refine held_free 19 (.pointer (some ⟨0, 4, none⟩)) rfl (by kernel_rfl) (by kernel_rfl) (by kernel_rfl) (by kernel_rfl) B1 (fun _ _ => by kernel_rfl) ?_
      refine held_free 20 (.pointer (some ⟨0, 5, none⟩)) rfl (by kernel_rfl) (by kernel_rfl) (by kernel_rfl) (by kernel_rfl) B1 (fun _ _ => ex_field (v := .pointer (some ⟨0, 4, none⟩)) 58 (.tmp 22) 1 (by kernel_rfl) (by kernel_rfl) (by kernel_rfl)) ?_
      refine held_free 21 (.int .i64 20) rfl (by kernel_rfl) (by kernel_rfl) (by kernel_rfl) (by kernel_rfl) B1 (fun W b => ex_load 3 (.tmp 23) (by kernel_rfl) ⟨0, 5, none⟩ (by kernel_rfl) (by kernel_rfl) ((HT.out.below b).c5)) ?_
      refine held_free 22 (.bool true) rfl (by kernel_rfl) (by kernel_rfl) (by kernel_rfl) (by kernel_rfl) B1 (fun _ _ => ex_inteqb .i64 3 3 (.tmp 19) (.tmp 24) (by kernel_rfl) ((mac.size : Int)) (20) (by kernel_rfl) (by kernel_rfl) (by kernel_rfl) true (H3.out)) ?_
      refine held_free 23 (.bool true) rfl (by kernel_rfl) (by kernel_rfl) (by kernel_rfl) (by kernel_rfl) B1 (fun _ _ => by kernel_rfl) ?_
      refine held_free 24 (.bool true) rfl (by kernel_rfl) (by kernel_rfl) (by kernel_rfl) (by kernel_rfl) B1 (fun _ _ => by kernel_rfl) ?_
      refine held_free 25 (.agg (jnv ⟨2, backup, id, token, nonce, mac⟩)) rfl (by kernel_rfl) (by kernel_rfl) (by kernel_rfl) (by kernel_rfl) B1 (fun W b => exec_row_ 24 (.tmp 1) (by kernel_rfl) b0 (by kernel_rfl) 24 _ (0, 0) _ (HX.out.below b HX.out.lt) Tryd.underlying24 rfl jn_size) ?_
      refine held_free 27 (.agg (jnv Jn.zero)) rfl (by kernel_rfl) (by kernel_rfl) (by kernel_rfl) (by kernel_rfl) B1 (fun _ _ => by kernel_rfl) ?_
      refine held_call 26 rfl (by kernel_rfl) (by kernel_rfl) (by kernel_rfl) (foreign_any ⟨2, backup, id, token, nonce, mac⟩ _) (fun w' h => bel_in B1 h) ?_
      intro W2 hW2
      have B2 := bel_in B1 hW2
      clear hW2 B1
      refine held_free 28 (.bool false) rfl (by kernel_rfl) (by kernel_rfl) (by kernel_rfl) (by kernel_rfl) B2 (fun W b => ex_aggeq 24 24 (.tmp 29) (.tmp 30) (by kernel_rfl) ((jnv (frn ⟨2, backup, id, token, nonce, mac⟩))) ((jnv Jn.zero)) (by kernel_rfl) (by kernel_rfl) (by kernel_rfl) false (jn_equal_b _ _ false H4.out W)) ?_
      refine held_free 29 (.bool false) rfl (by kernel_rfl) (by kernel_rfl) (by kernel_rfl) (by kernel_rfl) B2 (fun _ _ => by kernel_rfl) ?_
      refine held_free 30 (.bool false) rfl (by kernel_rfl) (by kernel_rfl) (by kernel_rfl) (by kernel_rfl) B2 (fun _ _ => by kernel_rfl) ?_
      refine held_end (by kernel_rfl) ?_
      go_wp2_with fail
      rw [HMM.out]
      exact ret_slot 2 (.bool false) (by kernel_rfl) (by kernel_rfl) (by kernel_rfl) ⟨rfl, by have q := HBV.out.trans (B2.mono HBV.out.size); first | exact q | (rw [HB0.out]; exact q)⟩
  · have H0 := Lib.hid (show decide ((0 : Int) ≤ 2 ∧ (2 : Int) < 3) = true by decide)
    have H1 := Lib.hid (decide_eq_true h1)
    have H2 := Lib.hid (decide_eq_true h2)
    have H3 := Lib.hid (show decide ((mac.size : Int) = 20) = false from decide_eq_false (by omega))
    have hx0 : Blk V b0 24 (jnv ⟨2, backup, id, token, nonce, mac⟩) := by rw [hV, hb0]; exact Blk.new _ _ _
    have HX := Lib.hid hx0
    have HMM := Lib.hid (show M = false from hM.trans (decide_eq_false fun m => h3 (show mac.size = 20 from m.2.2.1)))
    have HB0 := Lib.hid hb0
    have HVE := Lib.hid hV
    clear hx0 hb0 hV hx hM
    go_enter Tryd.func18, Tryd.ntmps18
    go_upto_region 1 with fail
    rw [← HVE.out, ← HB0.out]
    clear HVE
    have B0 : Below V.heap.size V V.drew := (Below.refl _ V).drew
    refine held_start (fun W => Below V.heap.size V W) (by kernel_rfl) (n := 31) rfl ?_
    obtain ⟨W0, hW0⟩ : ∃ W0, W0 = V.drew := ⟨_, rfl⟩
    rw [← hW0] at B0 ⊢
    clear hW0
    refine held_free 0 (.pointer (some ⟨b0, 0, none⟩)) rfl (by kernel_rfl) (by kernel_rfl) (by kernel_rfl) (by kernel_rfl) B0 (fun _ _ => ex_field (v := .pointer (some ⟨b0, 0, none⟩)) 24 (.tmp 1) 0 (by kernel_rfl) (by kernel_rfl) (by kernel_rfl)) ?_
    refine held_free 1 (.int .i64 2) rfl (by kernel_rfl) (by kernel_rfl) (by kernel_rfl) (by kernel_rfl) B0 (fun W b => ex_load 3 (.tmp 3) (by kernel_rfl) ⟨b0, 0, none⟩ (by kernel_rfl) (by kernel_rfl) ((HX.out.below b HX.out.lt).cell 0)) ?_
    refine held_call 2 rfl (by kernel_rfl) (by kernel_rfl) (by kernel_rfl) (known_b (2) true H0.out _) (fun w' h => bel_in B0 h) ?_
    intro W1 hW1
    have B1 := bel_in B0 hW1
    clear hW1 B0
    refine held_free 3 (.bool true) rfl (by kernel_rfl) (by kernel_rfl) (by kernel_rfl) (by kernel_rfl) B1 (fun _ _ => by kernel_rfl) ?_
    refine held_free 4 (.pointer (some ⟨b0, 2, none⟩)) rfl (by kernel_rfl) (by kernel_rfl) (by kernel_rfl) (by kernel_rfl) B1 (fun _ _ => ex_field (v := .pointer (some ⟨b0, 0, none⟩)) 24 (.tmp 1) 2 (by kernel_rfl) (by kernel_rfl) (by kernel_rfl)) ?_
    refine held_free 5 (.int .i64 id) rfl (by kernel_rfl) (by kernel_rfl) (by kernel_rfl) (by kernel_rfl) B1 (fun W b => ex_load 3 (.tmp 7) (by kernel_rfl) ⟨b0, 2, none⟩ (by kernel_rfl) (by kernel_rfl) ((HX.out.below b HX.out.lt).cell 2)) ?_
    refine held_free 6 (.bool true) rfl (by kernel_rfl) (by kernel_rfl) (by kernel_rfl) (by kernel_rfl) B1 (fun _ _ => ex_intleb .i64 3 3 (.const (.int .i64 0)) (.tmp 8) (by kernel_rfl) (0) (id) (by kernel_rfl) (by kernel_rfl) (by kernel_rfl) true (H1.out)) ?_
    refine held_free 7 (.bool true) rfl (by kernel_rfl) (by kernel_rfl) (by kernel_rfl) (by kernel_rfl) B1 (fun _ _ => by kernel_rfl) ?_
    refine held_free 8 (.bool true) rfl (by kernel_rfl) (by kernel_rfl) (by kernel_rfl) (by kernel_rfl) B1 (fun _ _ => by kernel_rfl) ?_
    refine held_free 9 (.pointer (some ⟨b0, 2, none⟩)) rfl (by kernel_rfl) (by kernel_rfl) (by kernel_rfl) (by kernel_rfl) B1 (fun _ _ => ex_field (v := .pointer (some ⟨b0, 0, none⟩)) 24 (.tmp 1) 2 (by kernel_rfl) (by kernel_rfl) (by kernel_rfl)) ?_
    refine held_free 10 (.int .i64 id) rfl (by kernel_rfl) (by kernel_rfl) (by kernel_rfl) (by kernel_rfl) B1 (fun W b => ex_load 3 (.tmp 12) (by kernel_rfl) ⟨b0, 2, none⟩ (by kernel_rfl) (by kernel_rfl) ((HX.out.below b HX.out.lt).cell 2)) ?_
    refine held_free 11 (.bool true) rfl (by kernel_rfl) (by kernel_rfl) (by kernel_rfl) (by kernel_rfl) B1 (fun _ _ => ex_intleb .i64 3 3 (.tmp 13) (.const (.int .i64 255)) (by kernel_rfl) (id) (255) (by kernel_rfl) (by kernel_rfl) (by kernel_rfl) true (H2.out)) ?_
    refine held_free 12 (.bool true) rfl (by kernel_rfl) (by kernel_rfl) (by kernel_rfl) (by kernel_rfl) B1 (fun _ _ => by kernel_rfl) ?_
    refine held_free 13 (.bool true) rfl (by kernel_rfl) (by kernel_rfl) (by kernel_rfl) (by kernel_rfl) B1 (fun _ _ => by kernel_rfl) ?_
    refine held_free 14 (.pointer (some ⟨b0, 5, none⟩)) rfl (by kernel_rfl) (by kernel_rfl) (by kernel_rfl) (by kernel_rfl) B1 (fun _ _ => ex_field (v := .pointer (some ⟨b0, 0, none⟩)) 24 (.tmp 1) 5 (by kernel_rfl) (by kernel_rfl) (by kernel_rfl)) ?_
    refine held_free 15 (.string mac) rfl (by kernel_rfl) (by kernel_rfl) (by kernel_rfl) (by kernel_rfl) B1 (fun W b => ex_load 9 (.tmp 17) (by kernel_rfl) ⟨b0, 5, none⟩ (by kernel_rfl) (by kernel_rfl) ((HX.out.below b HX.out.lt).cell 5)) ?_
    refine held_free 16 (.int .i64 (mac.size : Int)) rfl (by kernel_rfl) (by kernel_rfl) (by kernel_rfl) (by kernel_rfl) B1 (fun _ _ => by kernel_rfl) ?_
    refine held_free 17 (.pointer (some ⟨b0, 0, none⟩)) rfl (by kernel_rfl) (by kernel_rfl) (by kernel_rfl) (by kernel_rfl) B1 (fun _ _ => ex_field (v := .pointer (some ⟨b0, 0, none⟩)) 24 (.tmp 1) 0 (by kernel_rfl) (by kernel_rfl) (by kernel_rfl)) ?_
    refine held_free 18 (.int .i64 2) rfl (by kernel_rfl) (by kernel_rfl) (by kernel_rfl) (by kernel_rfl) B1 (fun W b => ex_load 3 (.tmp 20) (by kernel_rfl) ⟨b0, 0, none⟩ (by kernel_rfl) (by kernel_rfl) ((HX.out.below b HX.out.lt).cell 0)) ?_
    refine held_free 19 (.pointer (some ⟨0, 4, none⟩)) rfl (by kernel_rfl) (by kernel_rfl) (by kernel_rfl) (by kernel_rfl) B1 (fun _ _ => by kernel_rfl) ?_
    refine held_free 20 (.pointer (some ⟨0, 5, none⟩)) rfl (by kernel_rfl) (by kernel_rfl) (by kernel_rfl) (by kernel_rfl) B1 (fun _ _ => ex_field (v := .pointer (some ⟨0, 4, none⟩)) 58 (.tmp 22) 1 (by kernel_rfl) (by kernel_rfl) (by kernel_rfl)) ?_
    refine held_free 21 (.int .i64 20) rfl (by kernel_rfl) (by kernel_rfl) (by kernel_rfl) (by kernel_rfl) B1 (fun W b => ex_load 3 (.tmp 23) (by kernel_rfl) ⟨0, 5, none⟩ (by kernel_rfl) (by kernel_rfl) ((HT.out.below b).c5)) ?_
    refine held_free 22 (.bool false) rfl (by kernel_rfl) (by kernel_rfl) (by kernel_rfl) (by kernel_rfl) B1 (fun _ _ => ex_inteqb .i64 3 3 (.tmp 19) (.tmp 24) (by kernel_rfl) ((mac.size : Int)) (20) (by kernel_rfl) (by kernel_rfl) (by kernel_rfl) false (H3.out)) ?_
    refine held_free 23 (.bool false) rfl (by kernel_rfl) (by kernel_rfl) (by kernel_rfl) (by kernel_rfl) B1 (fun _ _ => by kernel_rfl) ?_
    refine held_free 24 (.bool false) rfl (by kernel_rfl) (by kernel_rfl) (by kernel_rfl) (by kernel_rfl) B1 (fun _ _ => by kernel_rfl) ?_
    refine held_pass 25 rfl (by kernel_rfl) (by kernel_rfl) (by kernel_rfl) (by kernel_rfl) B1 ?_
    refine held_pass 26 rfl (by kernel_rfl) (by kernel_rfl) (by kernel_rfl) (by kernel_rfl) B1 ?_
    refine held_pass 27 rfl (by kernel_rfl) (by kernel_rfl) (by kernel_rfl) (by kernel_rfl) B1 ?_
    refine held_pass 28 rfl (by kernel_rfl) (by kernel_rfl) (by kernel_rfl) (by kernel_rfl) B1 ?_
    refine held_free 29 (.bool false) rfl (by kernel_rfl) (by kernel_rfl) (by kernel_rfl) (by kernel_rfl) B1 (fun _ _ => by kernel_rfl) ?_
    refine held_free 30 (.bool false) rfl (by kernel_rfl) (by kernel_rfl) (by kernel_rfl) (by kernel_rfl) B1 (fun _ _ => by kernel_rfl) ?_
    refine held_end (by kernel_rfl) ?_
    go_wp2_with fail
    rw [HMM.out]
    exact ret_slot 2 (.bool false) (by kernel_rfl) (by kernel_rfl) (by kernel_rfl) ⟨rfl, by have q := HBV.out.trans (B1.mono HBV.out.size); first | exact q | (rw [HB0.out]; exact q)⟩
theorem valid_any (x : Jn) (hx : x.Ok) (w : World) (ht : Tbl w) :
    Calls Tryd.prog 18 #[.agg (jnv x)] w fun e w' => e = .returned (.bool (decide x.May)) ∧ Below w.heap.size w w' := by
  obtain ⟨form, backup, id, token, nonce, mac⟩ := x
  by_cases h0 : 0 ≤ form ∧ form < 3
  · by_cases h1 : 0 ≤ id
    · by_cases h2 : id ≤ 255
      · have : form = 0 ∨ form = 1 ∨ form = 2 := by omega
        rcases this with rfl | rfl | rfl
        · exact valid_0 backup id token nonce mac hx w ht h1 h2
        · exact valid_1 backup id token nonce mac hx w ht h1 h2
        · exact valid_2 backup id token nonce mac hx w ht h1 h2
      · exact valid_high form backup id token nonce mac hx w ht h0 h1 h2
    · exact valid_low form backup id token nonce mac hx w ht h0 h1
  · exact valid_no form backup id token nonce mac hx w ht h0
end Go.Proofs.YthnokkcpmikajaaDoor
