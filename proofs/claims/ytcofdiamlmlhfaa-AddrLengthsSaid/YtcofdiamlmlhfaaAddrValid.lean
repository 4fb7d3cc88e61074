/-
  What validAdd of package addr answers, by its walk: of any Add, in every order that its expression's parts may come up.
-/
import Derived.Test.YtcofdiamlmlhfaaAddrWalks
namespace Go.Proofs.Ytcofdiamlmlhfaa
open Go.ChangeShapes Go.WideShapes Go.ChangeAt Go.RowKit
set_option linter.unusedVariables false

set_option maxHeartbeats 2000000 in
set_option maxRecDepth 100000 in
theorem valid_true (echo : Bool) (id : Int) (ip : ByteArray) (port : Int) (mac : ByteArray) (w : World) :
    Calls Try.prog 22 #[.agg (adv ⟨echo, id, ip, true, port, mac⟩)] w fun e w' => e = .returned (.bool (decide (Ad.May ⟨echo, id, ip, true, port, mac⟩))) ∧ Below w.heap.size w w' := by
  obtain ⟨V, hV⟩ : ∃ V, V = w.alloc (.cells (adv ⟨echo, id, ip, true, port, mac⟩) 23) := ⟨_, rfl⟩
  obtain ⟨b0, hb0⟩ : ∃ b0, b0 = w.heap.size := ⟨_, rfl⟩
  obtain ⟨M, hM⟩ : ∃ M, M = decide (Ad.May ⟨echo, id, ip, true, port, mac⟩) := ⟨_, rfl⟩
  rw [← hM]
  have HBV := Lib.hid (show Below w.heap.size w V by rw [hV]; exact (Below.refl _ w).alloc (Nat.le_refl _) _)
  have hx0 : Blk V b0 23 (adv ⟨echo, id, ip, true, port, mac⟩) := by rw [hV, hb0]; exact Blk.new _ _ _
  by_cases h_i0 : 0 ≤ id
  · by_cases h_i1 : id ≤ 255
    · by_cases h_s4 : (ip.size : Int) = 4
      · by_cases h_p0 : 0 ≤ port
        · by_cases h_p1 : port ≤ 65535
          · by_cases h_mc : (mac.size : Int) = (macOf echo : Int)
            · have H_i0 := Lib.hid (show decide (0 ≤ id) = true from decide_eq_true h_i0)
              have H_i1 := Lib.hid (show decide (id ≤ 255) = true from decide_eq_true h_i1)
              have H_s4 := Lib.hid (show decide ((ip.size : Int) = 4) = true from decide_eq_true h_s4)
              have H_p0 := Lib.hid (show decide (0 ≤ port) = true from decide_eq_true h_p0)
              have H_p1 := Lib.hid (show decide (port ≤ 65535) = true from decide_eq_true h_p1)
              have H_mc := Lib.hid (show decide ((mac.size : Int) = (macOf echo : Int)) = true from decide_eq_true h_mc)
              have HX := Lib.hid hx0
              have HMM := Lib.hid (show M = true from hM.trans (decide_eq_true ⟨⟨h_i0, h_i1⟩, .inl (show ip.size = 4 by omega), ⟨h_p0, h_p1⟩, .inl rfl, by show mac.size = macOf echo; omega⟩))
              have HB0 := Lib.hid hb0
              have HVE := Lib.hid hV
              clear hx0 hb0 hV hM h_i0 h_i1 h_s4 h_p0 h_p1 h_mc
              go_enter Try.func22, Try.ntmps22
              go_upto_region 1 with fail
              rw [← HVE.out, ← HB0.out]
              clear HVE
              have B0 : Below V.heap.size V V.drew := (Below.refl _ V).drew
              refine held_start (fun W => Below V.heap.size V W) (by kernel_rfl) (n := 49) rfl ?_
              obtain ⟨W0, hW0⟩ : ∃ W0, W0 = V.drew := ⟨_, rfl⟩
              rw [← hW0] at B0 ⊢
              clear hW0
              refine held_free 0 (.pointer (some ⟨b0, 1, none⟩)) rfl (by kernel_rfl) (by kernel_rfl) (by kernel_rfl) (by kernel_rfl) B0 (fun _ _ => ex_field (v := .pointer (some ⟨b0, 0, none⟩)) 23 (.tmp 1) 1 (by kernel_rfl) (by kernel_rfl) (by kernel_rfl)) ?_
              refine held_free 1 (.int .i64 id) rfl (by kernel_rfl) (by kernel_rfl) (by kernel_rfl) (by kernel_rfl) B0 (fun W b => ex_load 3 (.tmp 3) (by kernel_rfl) ⟨b0, 1, none⟩ (by kernel_rfl) (by kernel_rfl) ((HX.out.below b HX.out.lt).cell 1)) ?_
              refine held_free 2 (.bool true) rfl (by kernel_rfl) (by kernel_rfl) (by kernel_rfl) (by kernel_rfl) B0 (fun _ _ => ex_intleb .i64 3 3 (.const (.int .i64 0)) (.tmp 4) (by kernel_rfl) (0) (id) (by kernel_rfl) (by kernel_rfl) (by kernel_rfl) true (H_i0.out)) ?_
              refine held_free 3 (.bool true) rfl (by kernel_rfl) (by kernel_rfl) (by kernel_rfl) (by kernel_rfl) B0 (fun _ _ => by kernel_rfl) ?_
              refine held_free 4 (.pointer (some ⟨b0, 1, none⟩)) rfl (by kernel_rfl) (by kernel_rfl) (by kernel_rfl) (by kernel_rfl) B0 (fun _ _ => ex_field (v := .pointer (some ⟨b0, 0, none⟩)) 23 (.tmp 1) 1 (by kernel_rfl) (by kernel_rfl) (by kernel_rfl)) ?_
              refine held_free 5 (.int .i64 id) rfl (by kernel_rfl) (by kernel_rfl) (by kernel_rfl) (by kernel_rfl) B0 (fun W b => ex_load 3 (.tmp 7) (by kernel_rfl) ⟨b0, 1, none⟩ (by kernel_rfl) (by kernel_rfl) ((HX.out.below b HX.out.lt).cell 1)) ?_
              refine held_free 6 (.bool true) rfl (by kernel_rfl) (by kernel_rfl) (by kernel_rfl) (by kernel_rfl) B0 (fun _ _ => ex_intleb .i64 3 3 (.tmp 8) (.const (.int .i64 255)) (by kernel_rfl) (id) (255) (by kernel_rfl) (by kernel_rfl) (by kernel_rfl) true (H_i1.out)) ?_
              refine held_free 7 (.bool true) rfl (by kernel_rfl) (by kernel_rfl) (by kernel_rfl) (by kernel_rfl) B0 (fun _ _ => by kernel_rfl) ?_
              refine held_free 8 (.bool true) rfl (by kernel_rfl) (by kernel_rfl) (by kernel_rfl) (by kernel_rfl) B0 (fun _ _ => by kernel_rfl) ?_
              refine held_free 9 (.pointer (some ⟨b0, 2, none⟩)) rfl (by kernel_rfl) (by kernel_rfl) (by kernel_rfl) (by kernel_rfl) B0 (fun _ _ => ex_field (v := .pointer (some ⟨b0, 0, none⟩)) 23 (.tmp 1) 2 (by kernel_rfl) (by kernel_rfl) (by kernel_rfl)) ?_
              refine held_free 10 (.string ip) rfl (by kernel_rfl) (by kernel_rfl) (by kernel_rfl) (by kernel_rfl) B0 (fun W b => ex_load 9 (.tmp 12) (by kernel_rfl) ⟨b0, 2, none⟩ (by kernel_rfl) (by kernel_rfl) ((HX.out.below b HX.out.lt).cell 2)) ?_
              refine held_free 11 (.int .i64 (ip.size : Int)) rfl (by kernel_rfl) (by kernel_rfl) (by kernel_rfl) (by kernel_rfl) B0 (fun _ _ => by kernel_rfl) ?_
              refine held_free 12 (.bool true) rfl (by kernel_rfl) (by kernel_rfl) (by kernel_rfl) (by kernel_rfl) B0 (fun _ _ => ex_inteqb .i64 3 3 (.tmp 14) (.const (.int .i64 4)) (by kernel_rfl) ((ip.size : Int)) (4) (by kernel_rfl) (by kernel_rfl) (by kernel_rfl) true (H_s4.out)) ?_
              refine held_free 13 (.bool true) rfl (by kernel_rfl) (by kernel_rfl) (by kernel_rfl) (by kernel_rfl) B0 (fun _ _ => by kernel_rfl) ?_
              refine held_pass 14 rfl (by kernel_rfl) (by kernel_rfl) (by kernel_rfl) (by kernel_rfl) B0 ?_
              refine held_pass 15 rfl (by kernel_rfl) (by kernel_rfl) (by kernel_rfl) (by kernel_rfl) B0 ?_
              refine held_pass 16 rfl (by kernel_rfl) (by kernel_rfl) (by kernel_rfl) (by kernel_rfl) B0 ?_
              refine held_pass 17 rfl (by kernel_rfl) (by kernel_rfl) (by kernel_rfl) (by kernel_rfl) B0 ?_
              refine held_free 18 (.bool true) rfl (by kernel_rfl) (by kernel_rfl) (by kernel_rfl) (by kernel_rfl) B0 (fun _ _ => by kernel_rfl) ?_
              refine held_free 19 (.bool true) rfl (by kernel_rfl) (by kernel_rfl) (by kernel_rfl) (by kernel_rfl) B0 (fun _ _ => by kernel_rfl) ?_
              refine held_free 20 (.bool true) rfl (by kernel_rfl) (by kernel_rfl) (by kernel_rfl) (by kernel_rfl) B0 (fun _ _ => by kernel_rfl) ?_
              refine held_free 21 (.pointer (some ⟨b0, 4, none⟩)) rfl (by kernel_rfl) (by kernel_rfl) (by kernel_rfl) (by kernel_rfl) B0 (fun _ _ => ex_field (v := .pointer (some ⟨b0, 0, none⟩)) 23 (.tmp 1) 4 (by kernel_rfl) (by kernel_rfl) (by kernel_rfl)) ?_
              refine held_free 22 (.int .i64 port) rfl (by kernel_rfl) (by kernel_rfl) (by kernel_rfl) (by kernel_rfl) B0 (fun W b => ex_load 3 (.tmp 24) (by kernel_rfl) ⟨b0, 4, none⟩ (by kernel_rfl) (by kernel_rfl) ((HX.out.below b HX.out.lt).cell 4)) ?_
              refine held_free 23 (.bool true) rfl (by kernel_rfl) (by kernel_rfl) (by kernel_rfl) (by kernel_rfl) B0 (fun _ _ => ex_intleb .i64 3 3 (.const (.int .i64 0)) (.tmp 25) (by kernel_rfl) (0) (port) (by kernel_rfl) (by kernel_rfl) (by kernel_rfl) true (H_p0.out)) ?_
              refine held_free 24 (.bool true) rfl (by kernel_rfl) (by kernel_rfl) (by kernel_rfl) (by kernel_rfl) B0 (fun _ _ => by kernel_rfl) ?_
              refine held_free 25 (.bool true) rfl (by kernel_rfl) (by kernel_rfl) (by kernel_rfl) (by kernel_rfl) B0 (fun _ _ => by kernel_rfl) ?_
              refine held_free 26 (.pointer (some ⟨b0, 4, none⟩)) rfl (by kernel_rfl) (by kernel_rfl) (by kernel_rfl) (by kernel_rfl) B0 (fun _ _ => ex_field (v := .pointer (some ⟨b0, 0, none⟩)) 23 (.tmp 1) 4 (by kernel_rfl) (by kernel_rfl) (by kernel_rfl)) ?_
              refine held_free 27 (.int .i64 port) rfl (by kernel_rfl) (by kernel_rfl) (by kernel_rfl) (by kernel_rfl) B0 (fun W b => ex_load 3 (.tmp 29) (by kernel_rfl) ⟨b0, 4, none⟩ (by kernel_rfl) (by kernel_rfl) ((HX.out.below b HX.out.lt).cell 4)) ?_
              refine held_free 28 (.bool true) rfl (by kernel_rfl) (by kernel_rfl) (by kernel_rfl) (by kernel_rfl) B0 (fun _ _ => ex_intleb .i64 3 3 (.tmp 30) (.const (.int .i64 65535)) (by kernel_rfl) (port) (65535) (by kernel_rfl) (by kernel_rfl) (by kernel_rfl) true (H_p1.out)) ?_
              refine held_free 29 (.bool true) rfl (by kernel_rfl) (by kernel_rfl) (by kernel_rfl) (by kernel_rfl) B0 (fun _ _ => by kernel_rfl) ?_
              refine held_free 30 (.bool true) rfl (by kernel_rfl) (by kernel_rfl) (by kernel_rfl) (by kernel_rfl) B0 (fun _ _ => by kernel_rfl) ?_
              refine held_free 31 (.pointer (some ⟨b0, 3, none⟩)) rfl (by kernel_rfl) (by kernel_rfl) (by kernel_rfl) (by kernel_rfl) B0 (fun _ _ => ex_field (v := .pointer (some ⟨b0, 0, none⟩)) 23 (.tmp 1) 3 (by kernel_rfl) (by kernel_rfl) (by kernel_rfl)) ?_
              refine held_free 32 (.bool true) rfl (by kernel_rfl) (by kernel_rfl) (by kernel_rfl) (by kernel_rfl) B0 (fun W b => ex_load 4 (.tmp 34) (by kernel_rfl) ⟨b0, 3, none⟩ (by kernel_rfl) (by kernel_rfl) ((HX.out.below b HX.out.lt).cell 3)) ?_
              refine held_free 33 (.bool true) rfl (by kernel_rfl) (by kernel_rfl) (by kernel_rfl) (by kernel_rfl) B0 (fun _ _ => by kernel_rfl) ?_
              refine held_pass 34 rfl (by kernel_rfl) (by kernel_rfl) (by kernel_rfl) (by kernel_rfl) B0 ?_
              refine held_pass 35 rfl (by kernel_rfl) (by kernel_rfl) (by kernel_rfl) (by kernel_rfl) B0 ?_
              refine held_pass 36 rfl (by kernel_rfl) (by kernel_rfl) (by kernel_rfl) (by kernel_rfl) B0 ?_
              refine held_free 37 (.bool true) rfl (by kernel_rfl) (by kernel_rfl) (by kernel_rfl) (by kernel_rfl) B0 (fun _ _ => by kernel_rfl) ?_
              refine held_free 38 (.bool true) rfl (by kernel_rfl) (by kernel_rfl) (by kernel_rfl) (by kernel_rfl) B0 (fun _ _ => by kernel_rfl) ?_
              refine held_free 39 (.bool true) rfl (by kernel_rfl) (by kernel_rfl) (by kernel_rfl) (by kernel_rfl) B0 (fun _ _ => by kernel_rfl) ?_
              refine held_free 40 (.pointer (some ⟨b0, 5, none⟩)) rfl (by kernel_rfl) (by kernel_rfl) (by kernel_rfl) (by kernel_rfl) B0 (fun _ _ => ex_field (v := .pointer (some ⟨b0, 0, none⟩)) 23 (.tmp 1) 5 (by kernel_rfl) (by kernel_rfl) (by kernel_rfl)) ?_
              refine held_free 41 (.string mac) rfl (by kernel_rfl) (by kernel_rfl) (by kernel_rfl) (by kernel_rfl) B0 (fun W b => ex_load 9 (.tmp 43) (by kernel_rfl) ⟨b0, 5, none⟩ (by kernel_rfl) (by kernel_rfl) ((HX.out.below b HX.out.lt).cell 5)) ?_
              refine held_free 42 (.int .i64 (mac.size : Int)) rfl (by kernel_rfl) (by kernel_rfl) (by kernel_rfl) (by kernel_rfl) B0 (fun _ _ => by kernel_rfl) ?_
              refine held_free 43 (.pointer (some ⟨b0, 0, none⟩)) rfl (by kernel_rfl) (by kernel_rfl) (by kernel_rfl) (by kernel_rfl) B0 (fun _ _ => ex_field (v := .pointer (some ⟨b0, 0, none⟩)) 23 (.tmp 1) 0 (by kernel_rfl) (by kernel_rfl) (by kernel_rfl)) ?_
              refine held_free 44 (.bool echo) rfl (by kernel_rfl) (by kernel_rfl) (by kernel_rfl) (by kernel_rfl) B0 (fun W b => ex_load 4 (.tmp 46) (by kernel_rfl) ⟨b0, 0, none⟩ (by kernel_rfl) (by kernel_rfl) ((HX.out.below b HX.out.lt).cell 0)) ?_
              refine held_call 45 rfl (by kernel_rfl) (by kernel_rfl) (by kernel_rfl) (macSizeOf_any echo _) (fun w' h => bel_in B0 h) ?_
              intro W1 hW1
              have B1 := bel_in B0 hW1
              clear hW1 B0
              refine held_free 46 (.bool true) rfl (by kernel_rfl) (by kernel_rfl) (by kernel_rfl) (by kernel_rfl) B1 (fun _ _ => ex_inteqb .i64 3 3 (.tmp 45) (.tmp 48) (by kernel_rfl) ((mac.size : Int)) ((macOf echo : Int)) (by kernel_rfl) (by kernel_rfl) (by kernel_rfl) true (H_mc.out)) ?_
              refine held_free 47 (.bool true) rfl (by kernel_rfl) (by kernel_rfl) (by kernel_rfl) (by kernel_rfl) B1 (fun _ _ => by kernel_rfl) ?_
              refine held_free 48 (.bool true) rfl (by kernel_rfl) (by kernel_rfl) (by kernel_rfl) (by kernel_rfl) B1 (fun _ _ => by kernel_rfl) ?_
              refine held_end (by kernel_rfl) ?_
              go_wp2_with fail
              rw [HMM.out]
              exact ret_slot 2 (.bool true) (by kernel_rfl) (by kernel_rfl) (by kernel_rfl) ⟨rfl, by have q := HBV.out.trans (B1.mono HBV.out.size); first | exact q | (rw [HB0.out]; exact q)⟩
            · have H_i0 := Lib.hid (show decide (0 ≤ id) = true from decide_eq_true h_i0)
              have H_i1 := Lib.hid (show decide (id ≤ 255) = true from decide_eq_true h_i1)
              have H_s4 := Lib.hid (show decide ((ip.size : Int) = 4) = true from decide_eq_true h_s4)
              have H_p0 := Lib.hid (show decide (0 ≤ port) = true from decide_eq_true h_p0)
              have H_p1 := Lib.hid (show decide (port ≤ 65535) = true from decide_eq_true h_p1)
              have H_mc := Lib.hid (show decide ((mac.size : Int) = (macOf echo : Int)) = false from decide_eq_false h_mc)
              have HX := Lib.hid hx0
              have HMM := Lib.hid (show M = false from hM.trans (decide_eq_false fun m => h_mc (by have q : mac.size = macOf echo := m.2.2.2.2; omega)))
              have HB0 := Lib.hid hb0
              have HVE := Lib.hid hV
              clear hx0 hb0 hV hM h_i0 h_i1 h_s4 h_p0 h_p1 h_mc
              go_enter Try.func22, Try.ntmps22
              go_upto_region 1 with fail
              rw [← HVE.out, ← HB0.out]
              clear HVE
              have B0 : Below V.heap.size V V.drew := (Below.refl _ V).drew
              refine held_start (fun W => Below V.heap.size V W) (by kernel_rfl) (n := 49) rfl ?_
              obtain ⟨W0, hW0⟩ : ∃ W0, W0 = V.drew := ⟨_, rfl⟩
              rw [← hW0] at B0 ⊢
              clear hW0
              refine held_free 0 (.pointer (some ⟨b0, 1, none⟩)) rfl (by kernel_rfl) (by kernel_rfl) (by kernel_rfl) (by kernel_rfl) B0 (fun _ _ => ex_field (v := .pointer (some ⟨b0, 0, none⟩)) 23 (.tmp 1) 1 (by kernel_rfl) (by kernel_rfl) (by kernel_rfl)) ?_
              refine held_free 1 (.int .i64 id) rfl (by kernel_rfl) (by kernel_rfl) (by kernel_rfl) (by kernel_rfl) B0 (fun W b => ex_load 3 (.tmp 3) (by kernel_rfl) ⟨b0, 1, none⟩ (by kernel_rfl) (by kernel_rfl) ((HX.out.below b HX.out.lt).cell 1)) ?_
              refine held_free 2 (.bool true) rfl (by kernel_rfl) (by kernel_rfl) (by kernel_rfl) (by kernel_rfl) B0 (fun _ _ => ex_intleb .i64 3 3 (.const (.int .i64 0)) (.tmp 4) (by kernel_rfl) (0) (id) (by kernel_rfl) (by kernel_rfl) (by kernel_rfl) true (H_i0.out)) ?_
              refine held_free 3 (.bool true) rfl (by kernel_rfl) (by kernel_rfl) (by kernel_rfl) (by kernel_rfl) B0 (fun _ _ => by kernel_rfl) ?_
              refine held_free 4 (.pointer (some ⟨b0, 1, none⟩)) rfl (by kernel_rfl) (by kernel_rfl) (by kernel_rfl) (by kernel_rfl) B0 (fun _ _ => ex_field (v := .pointer (some ⟨b0, 0, none⟩)) 23 (.tmp 1) 1 (by kernel_rfl) (by kernel_rfl) (by kernel_rfl)) ?_
              refine held_free 5 (.int .i64 id) rfl (by kernel_rfl) (by kernel_rfl) (by kernel_rfl) (by kernel_rfl) B0 (fun W b => ex_load 3 (.tmp 7) (by kernel_rfl) ⟨b0, 1, none⟩ (by kernel_rfl) (by kernel_rfl) ((HX.out.below b HX.out.lt).cell 1)) ?_
              refine held_free 6 (.bool true) rfl (by kernel_rfl) (by kernel_rfl) (by kernel_rfl) (by kernel_rfl) B0 (fun _ _ => ex_intleb .i64 3 3 (.tmp 8) (.const (.int .i64 255)) (by kernel_rfl) (id) (255) (by kernel_rfl) (by kernel_rfl) (by kernel_rfl) true (H_i1.out)) ?_
              refine held_free 7 (.bool true) rfl (by kernel_rfl) (by kernel_rfl) (by kernel_rfl) (by kernel_rfl) B0 (fun _ _ => by kernel_rfl) ?_
              refine held_free 8 (.bool true) rfl (by kernel_rfl) (by kernel_rfl) (by kernel_rfl) (by kernel_rfl) B0 (fun _ _ => by kernel_rfl) ?_
              refine held_free 9 (.pointer (some ⟨b0, 2, none⟩)) rfl (by kernel_rfl) (by kernel_rfl) (by kernel_rfl) (by kernel_rfl) B0 (fun _ _ => ex_field (v := .pointer (some ⟨b0, 0, none⟩)) 23 (.tmp 1) 2 (by kernel_rfl) (by kernel_rfl) (by kernel_rfl)) ?_
              refine held_free 10 (.string ip) rfl (by kernel_rfl) (by kernel_rfl) (by kernel_rfl) (by kernel_rfl) B0 (fun W b => ex_load 9 (.tmp 12) (by kernel_rfl) ⟨b0, 2, none⟩ (by kernel_rfl) (by kernel_rfl) ((HX.out.below b HX.out.lt).cell 2)) ?_
              refine held_free 11 (.int .i64 (ip.size : Int)) rfl (by kernel_rfl) (by kernel_rfl) (by kernel_rfl) (by kernel_rfl) B0 (fun _ _ => by kernel_rfl) ?_
              refine held_free 12 (.bool true) rfl (by kernel_rfl) (by kernel_rfl) (by kernel_rfl) (by kernel_rfl) B0 (fun _ _ => ex_inteqb .i64 3 3 (.tmp 14) (.const (.int .i64 4)) (by kernel_rfl) ((ip.size : Int)) (4) (by kernel_rfl) (by kernel_rfl) (by kernel_rfl) true (H_s4.out)) ?_
              refine held_free 13 (.bool true) rfl (by kernel_rfl) (by kernel_rfl) (by kernel_rfl) (by kernel_rfl) B0 (fun _ _ => by kernel_rfl) ?_
              refine held_pass 14 rfl (by kernel_rfl) (by kernel_rfl) (by kernel_rfl) (by kernel_rfl) B0 ?_
              refine held_pass 15 rfl (by kernel_rfl) (by kernel_rfl) (by kernel_rfl) (by kernel_rfl) B0 ?_
              refine held_pass 16 rfl (by kernel_rfl) (by kernel_rfl) (by kernel_rfl) (by kernel_rfl) B0 ?_
              refine held_pass 17 rfl (by kernel_rfl) (by kernel_rfl) (by kernel_rfl) (by kernel_rfl) B0 ?_
              refine held_free 18 (.bool true) rfl (by kernel_rfl) (by kernel_rfl) (by kernel_rfl) (by kernel_rfl) B0 (fun _ _ => by kernel_rfl) ?_
              refine held_free 19 (.bool true) rfl (by kernel_rfl) (by kernel_rfl) (by kernel_rfl) (by kernel_rfl) B0 (fun _ _ => by kernel_rfl) ?_
              refine held_free 20 (.bool true) rfl (by kernel_rfl) (by kernel_rfl) (by kernel_rfl) (by kernel_rfl) B0 (fun _ _ => by kernel_rfl) ?_
              refine held_free 21 (.pointer (some ⟨b0, 4, none⟩)) rfl (by kernel_rfl) (by kernel_rfl) (by kernel_rfl) (by kernel_rfl) B0 (fun _ _ => ex_field (v := .pointer (some ⟨b0, 0, none⟩)) 23 (.tmp 1) 4 (by kernel_rfl) (by kernel_rfl) (by kernel_rfl)) ?_
              refine held_free 22 (.int .i64 port) rfl (by kernel_rfl) (by kernel_rfl) (by kernel_rfl) (by kernel_rfl) B0 (fun W b => ex_load 3 (.tmp 24) (by kernel_rfl) ⟨b0, 4, none⟩ (by kernel_rfl) (by kernel_rfl) ((HX.out.below b HX.out.lt).cell 4)) ?_
              refine held_free 23 (.bool true) rfl (by kernel_rfl) (by kernel_rfl) (by kernel_rfl) (by kernel_rfl) B0 (fun _ _ => ex_intleb .i64 3 3 (.const (.int .i64 0)) (.tmp 25) (by kernel_rfl) (0) (port) (by kernel_rfl) (by kernel_rfl) (by kernel_rfl) true (H_p0.out)) ?_
              refine held_free 24 (.bool true) rfl (by kernel_rfl) (by kernel_rfl) (by kernel_rfl) (by kernel_rfl) B0 (fun _ _ => by kernel_rfl) ?_
              refine held_free 25 (.bool true) rfl (by kernel_rfl) (by kernel_rfl) (by kernel_rfl) (by kernel_rfl) B0 (fun _ _ => by kernel_rfl) ?_
              refine held_free 26 (.pointer (some ⟨b0, 4, none⟩)) rfl (by kernel_rfl) (by kernel_rfl) (by kernel_rfl) (by kernel_rfl) B0 (fun _ _ => ex_field (v := .pointer (some ⟨b0, 0, none⟩)) 23 (.tmp 1) 4 (by kernel_rfl) (by kernel_rfl) (by kernel_rfl)) ?_
              refine held_free 27 (.int .i64 port) rfl (by kernel_rfl) (by kernel_rfl) (by kernel_rfl) (by kernel_rfl) B0 (fun W b => ex_load 3 (.tmp 29) (by kernel_rfl) ⟨b0, 4, none⟩ (by kernel_rfl) (by kernel_rfl) ((HX.out.below b HX.out.lt).cell 4)) ?_
              refine held_free 28 (.bool true) rfl (by kernel_rfl) (by kernel_rfl) (by kernel_rfl) (by kernel_rfl) B0 (fun _ _ => ex_intleb .i64 3 3 (.tmp 30) (.const (.int .i64 65535)) (by kernel_rfl) (port) (65535) (by kernel_rfl) (by kernel_rfl) (by kernel_rfl) true (H_p1.out)) ?_
              refine held_free 29 (.bool true) rfl (by kernel_rfl) (by kernel_rfl) (by kernel_rfl) (by kernel_rfl) B0 (fun _ _ => by kernel_rfl) ?_
              refine held_free 30 (.bool true) rfl (by kernel_rfl) (by kernel_rfl) (by kernel_rfl) (by kernel_rfl) B0 (fun _ _ => by kernel_rfl) ?_
              refine held_free 31 (.pointer (some ⟨b0, 3, none⟩)) rfl (by kernel_rfl) (by kernel_rfl) (by kernel_rfl) (by kernel_rfl) B0 (fun _ _ => ex_field (v := .pointer (some ⟨b0, 0, none⟩)) 23 (.tmp 1) 3 (by kernel_rfl) (by kernel_rfl) (by kernel_rfl)) ?_
              refine held_free 32 (.bool true) rfl (by kernel_rfl) (by kernel_rfl) (by kernel_rfl) (by kernel_rfl) B0 (fun W b => ex_load 4 (.tmp 34) (by kernel_rfl) ⟨b0, 3, none⟩ (by kernel_rfl) (by kernel_rfl) ((HX.out.below b HX.out.lt).cell 3)) ?_
              refine held_free 33 (.bool true) rfl (by kernel_rfl) (by kernel_rfl) (by kernel_rfl) (by kernel_rfl) B0 (fun _ _ => by kernel_rfl) ?_
              refine held_pass 34 rfl (by kernel_rfl) (by kernel_rfl) (by kernel_rfl) (by kernel_rfl) B0 ?_
              refine held_pass 35 rfl (by kernel_rfl) (by kernel_rfl) (by kernel_rfl) (by kernel_rfl) B0 ?_
              refine held_pass 36 rfl (by kernel_rfl) (by kernel_rfl) (by kernel_rfl) (by kernel_rfl) B0 ?_
              refine held_free 37 (.bool true) rfl (by kernel_rfl) (by kernel_rfl) (by kernel_rfl) (by kernel_rfl) B0 (fun _ _ => by kernel_rfl) ?_
              refine held_free 38 (.bool true) rfl (by kernel_rfl) (by kernel_rfl) (by kernel_rfl) (by kernel_rfl) B0 (fun _ _ => by kernel_rfl) ?_
              refine held_free 39 (.bool true) rfl (by kernel_rfl) (by kernel_rfl) (by kernel_rfl) (by kernel_rfl) B0 (fun _ _ => by kernel_rfl) ?_
              refine held_free 40 (.pointer (some ⟨b0, 5, none⟩)) rfl (by kernel_rfl) (by kernel_rfl) (by kernel_rfl) (by kernel_rfl) B0 (fun _ _ => ex_field (v := .pointer (some ⟨b0, 0, none⟩)) 23 (.tmp 1) 5 (by kernel_rfl) (by kernel_rfl) (by kernel_rfl)) ?_
              refine held_free 41 (.string mac) rfl (by kernel_rfl) (by kernel_rfl) (by kernel_rfl) (by kernel_rfl) B0 (fun W b => ex_load 9 (.tmp 43) (by kernel_rfl) ⟨b0, 5, none⟩ (by kernel_rfl) (by kernel_rfl) ((HX.out.below b HX.out.lt).cell 5)) ?_
              refine held_free 42 (.int .i64 (mac.size : Int)) rfl (by kernel_rfl) (by kernel_rfl) (by kernel_rfl) (by kernel_rfl) B0 (fun _ _ => by kernel_rfl) ?_
              refine held_free 43 (.pointer (some ⟨b0, 0, none⟩)) rfl (by kernel_rfl) (by kernel_rfl) (by kernel_rfl) (by kernel_rfl) B0 (fun _ _ => ex_field (v := .pointer (some ⟨b0, 0, none⟩)) 23 (.tmp 1) 0 (by kernel_rfl) (by kernel_rfl) (by kernel_rfl)) ?_
              refine held_free 44 (.bool echo) rfl (by kernel_rfl) (by kernel_rfl) (by kernel_rfl) (by kernel_rfl) B0 (fun W b => ex_load 4 (.tmp 46) (by kernel_rfl) ⟨b0, 0, none⟩ (by kernel_rfl) (by kernel_rfl) ((HX.out.below b HX.out.lt).cell 0)) ?_
              refine held_call 45 rfl (by kernel_rfl) (by kernel_rfl) (by kernel_rfl) (macSizeOf_any echo _) (fun w' h => bel_in B0 h) ?_
              intro W1 hW1
              have B1 := bel_in B0 hW1
              clear hW1 B0
              refine held_free 46 (.bool false) rfl (by kernel_rfl) (by kernel_rfl) (by kernel_rfl) (by kernel_rfl) B1 (fun _ _ => ex_inteqb .i64 3 3 (.tmp 45) (.tmp 48) (by kernel_rfl) ((mac.size : Int)) ((macOf echo : Int)) (by kernel_rfl) (by kernel_rfl) (by kernel_rfl) false (H_mc.out)) ?_
              refine held_free 47 (.bool false) rfl (by kernel_rfl) (by kernel_rfl) (by kernel_rfl) (by kernel_rfl) B1 (fun _ _ => by kernel_rfl) ?_
              refine held_free 48 (.bool false) rfl (by kernel_rfl) (by kernel_rfl) (by kernel_rfl) (by kernel_rfl) B1 (fun _ _ => by kernel_rfl) ?_
              refine held_end (by kernel_rfl) ?_
              go_wp2_with fail
              rw [HMM.out]
              exact ret_slot 2 (.bool false) (by kernel_rfl) (by kernel_rfl) (by kernel_rfl) ⟨rfl, by have q := HBV.out.trans (B1.mono HBV.out.size); first | exact q | (rw [HB0.out]; exact q)⟩
          · have H_i0 := Lib.hid (show decide (0 ≤ id) = true from decide_eq_true h_i0)
            have H_i1 := Lib.hid (show decide (id ≤ 255) = true from decide_eq_true h_i1)
            have H_s4 := Lib.hid (show decide ((ip.size : Int) = 4) = true from decide_eq_true h_s4)
            have H_p0 := Lib.hid (show decide (0 ≤ port) = true from decide_eq_true h_p0)
            have H_p1 := Lib.hid (show decide (port ≤ 65535) = false from decide_eq_false h_p1)
            have HX := Lib.hid hx0
            have HMM := Lib.hid (show M = false from hM.trans (decide_eq_false fun m => h_p1 m.2.2.1.2))
            have HB0 := Lib.hid hb0
            have HVE := Lib.hid hV
            clear hx0 hb0 hV hM h_i0 h_i1 h_s4 h_p0 h_p1
            go_enter Try.func22, Try.ntmps22
            go_upto_region 1 with fail
            rw [← HVE.out, ← HB0.out]
            clear HVE
            have B0 : Below V.heap.size V V.drew := (Below.refl _ V).drew
            refine held_start (fun W => Below V.heap.size V W) (by kernel_rfl) (n := 49) rfl ?_
            obtain ⟨W0, hW0⟩ : ∃ W0, W0 = V.drew := ⟨_, rfl⟩
            rw [← hW0] at B0 ⊢
            clear hW0
            refine held_free 0 (.pointer (some ⟨b0, 1, none⟩)) rfl (by kernel_rfl) (by kernel_rfl) (by kernel_rfl) (by kernel_rfl) B0 (fun _ _ => ex_field (v := .pointer (some ⟨b0, 0, none⟩)) 23 (.tmp 1) 1 (by kernel_rfl) (by kernel_rfl) (by kernel_rfl)) ?_
            refine held_free 1 (.int .i64 id) rfl (by kernel_rfl) (by kernel_rfl) (by kernel_rfl) (by kernel_rfl) B0 (fun W b => ex_load 3 (.tmp 3) (by kernel_rfl) ⟨b0, 1, none⟩ (by kernel_rfl) (by kernel_rfl) ((HX.out.below b HX.out.lt).cell 1)) ?_
            refine held_free 2 (.bool true) rfl (by kernel_rfl) (by kernel_rfl) (by kernel_rfl) (by kernel_rfl) B0 (fun _ _ => ex_intleb .i64 3 3 (.const (.int .i64 0)) (.tmp 4) (by kernel_rfl) (0) (id) (by kernel_rfl) (by kernel_rfl) (by kernel_rfl) true (H_i0.out)) ?_
            refine held_free 3 (.bool true) rfl (by kernel_rfl) (by kernel_rfl) (by kernel_rfl) (by kernel_rfl) B0 (fun _ _ => by kernel_rfl) ?_
            refine held_free 4 (.pointer (some ⟨b0, 1, none⟩)) rfl (by kernel_rfl) (by kernel_rfl) (by kernel_rfl) (by kernel_rfl) B0 (fun _ _ => ex_field (v := .pointer (some ⟨b0, 0, none⟩)) 23 (.tmp 1) 1 (by kernel_rfl) (by kernel_rfl) (by kernel_rfl)) ?_
            refine held_free 5 (.int .i64 id) rfl (by kernel_rfl) (by kernel_rfl) (by kernel_rfl) (by kernel_rfl) B0 (fun W b => ex_load 3 (.tmp 7) (by kernel_rfl) ⟨b0, 1, none⟩ (by kernel_rfl) (by kernel_rfl) ((HX.out.below b HX.out.lt).cell 1)) ?_
            refine held_free 6 (.bool true) rfl (by kernel_rfl) (by kernel_rfl) (by kernel_rfl) (by kernel_rfl) B0 (fun _ _ => ex_intleb .i64 3 3 (.tmp 8) (.const (.int .i64 255)) (by kernel_rfl) (id) (255) (by kernel_rfl) (by kernel_rfl) (by kernel_rfl) true (H_i1.out)) ?_
            refine held_free 7 (.bool true) rfl (by kernel_rfl) (by kernel_rfl) (by kernel_rfl) (by kernel_rfl) B0 (fun _ _ => by kernel_rfl) ?_
            refine held_free 8 (.bool true) rfl (by kernel_rfl) (by kernel_rfl) (by kernel_rfl) (by kernel_rfl) B0 (fun _ _ => by kernel_rfl) ?_
            refine held_free 9 (.pointer (some ⟨b0, 2, none⟩)) rfl (by kernel_rfl) (by kernel_rfl) (by kernel_rfl) (by kernel_rfl) B0 (fun _ _ => ex_field (v := .pointer (some ⟨b0, 0, none⟩)) 23 (.tmp 1) 2 (by kernel_rfl) (by kernel_rfl) (by kernel_rfl)) ?_
            refine held_free 10 (.string ip) rfl (by kernel_rfl) (by kernel_rfl) (by kernel_rfl) (by kernel_rfl) B0 (fun W b => ex_load 9 (.tmp 12) (by kernel_rfl) ⟨b0, 2, none⟩ (by kernel_rfl) (by kernel_rfl) ((HX.out.below b HX.out.lt).cell 2)) ?_
            refine held_free 11 (.int .i64 (ip.size : Int)) rfl (by kernel_rfl) (by kernel_rfl) (by kernel_rfl) (by kernel_rfl) B0 (fun _ _ => by kernel_rfl) ?_
            refine held_free 12 (.bool true) rfl (by kernel_rfl) (by kernel_rfl) (by kernel_rfl) (by kernel_rfl) B0 (fun _ _ => ex_inteqb .i64 3 3 (.tmp 14) (.const (.int .i64 4)) (by kernel_rfl) ((ip.size : Int)) (4) (by kernel_rfl) (by kernel_rfl) (by kernel_rfl) true (H_s4.out)) ?_
            refine held_free 13 (.bool true) rfl (by kernel_rfl) (by kernel_rfl) (by kernel_rfl) (by kernel_rfl) B0 (fun _ _ => by kernel_rfl) ?_
            refine held_pass 14 rfl (by kernel_rfl) (by kernel_rfl) (by kernel_rfl) (by kernel_rfl) B0 ?_
            refine held_pass 15 rfl (by kernel_rfl) (by kernel_rfl) (by kernel_rfl) (by kernel_rfl) B0 ?_
            refine held_pass 16 rfl (by kernel_rfl) (by kernel_rfl) (by kernel_rfl) (by kernel_rfl) B0 ?_
            refine held_pass 17 rfl (by kernel_rfl) (by kernel_rfl) (by kernel_rfl) (by kernel_rfl) B0 ?_
            refine held_free 18 (.bool true) rfl (by kernel_rfl) (by kernel_rfl) (by kernel_rfl) (by kernel_rfl) B0 (fun _ _ => by kernel_rfl) ?_
            refine held_free 19 (.bool true) rfl (by kernel_rfl) (by kernel_rfl) (by kernel_rfl) (by kernel_rfl) B0 (fun _ _ => by kernel_rfl) ?_
            refine held_free 20 (.bool true) rfl (by kernel_rfl) (by kernel_rfl) (by kernel_rfl) (by kernel_rfl) B0 (fun _ _ => by kernel_rfl) ?_
            refine held_free 21 (.pointer (some ⟨b0, 4, none⟩)) rfl (by kernel_rfl) (by kernel_rfl) (by kernel_rfl) (by kernel_rfl) B0 (fun _ _ => ex_field (v := .pointer (some ⟨b0, 0, none⟩)) 23 (.tmp 1) 4 (by kernel_rfl) (by kernel_rfl) (by kernel_rfl)) ?_
            refine held_free 22 (.int .i64 port) rfl (by kernel_rfl) (by kernel_rfl) (by kernel_rfl) (by kernel_rfl) B0 (fun W b => ex_load 3 (.tmp 24) (by kernel_rfl) ⟨b0, 4, none⟩ (by kernel_rfl) (by kernel_rfl) ((HX.out.below b HX.out.lt).cell 4)) ?_
            refine held_free 23 (.bool true) rfl (by kernel_rfl) (by kernel_rfl) (by kernel_rfl) (by kernel_rfl) B0 (fun _ _ => ex_intleb .i64 3 3 (.const (.int .i64 0)) (.tmp 25) (by kernel_rfl) (0) (port) (by kernel_rfl) (by kernel_rfl) (by kernel_rfl) true (H_p0.out)) ?_
            refine held_free 24 (.bool true) rfl (by kernel_rfl) (by kernel_rfl) (by kernel_rfl) (by kernel_rfl) B0 (fun _ _ => by kernel_rfl) ?_
            refine held_free 25 (.bool true) rfl (by kernel_rfl) (by kernel_rfl) (by kernel_rfl) (by kernel_rfl) B0 (fun _ _ => by kernel_rfl) ?_
            refine held_free 26 (.pointer (some ⟨b0, 4, none⟩)) rfl (by kernel_rfl) (by kernel_rfl) (by kernel_rfl) (by kernel_rfl) B0 (fun _ _ => ex_field (v := .pointer (some ⟨b0, 0, none⟩)) 23 (.tmp 1) 4 (by kernel_rfl) (by kernel_rfl) (by kernel_rfl)) ?_
            refine held_free 27 (.int .i64 port) rfl (by kernel_rfl) (by kernel_rfl) (by kernel_rfl) (by kernel_rfl) B0 (fun W b => ex_load 3 (.tmp 29) (by kernel_rfl) ⟨b0, 4, none⟩ (by kernel_rfl) (by kernel_rfl) ((HX.out.below b HX.out.lt).cell 4)) ?_
            refine held_free 28 (.bool false) rfl (by kernel_rfl) (by kernel_rfl) (by kernel_rfl) (by kernel_rfl) B0 (fun _ _ => ex_intleb .i64 3 3 (.tmp 30) (.const (.int .i64 65535)) (by kernel_rfl) (port) (65535) (by kernel_rfl) (by kernel_rfl) (by kernel_rfl) false (H_p1.out)) ?_
            refine held_free 29 (.bool false) rfl (by kernel_rfl) (by kernel_rfl) (by kernel_rfl) (by kernel_rfl) B0 (fun _ _ => by kernel_rfl) ?_
            refine held_free 30 (.bool false) rfl (by kernel_rfl) (by kernel_rfl) (by kernel_rfl) (by kernel_rfl) B0 (fun _ _ => by kernel_rfl) ?_
            refine held_pass 31 rfl (by kernel_rfl) (by kernel_rfl) (by kernel_rfl) (by kernel_rfl) B0 ?_
            refine held_pass 32 rfl (by kernel_rfl) (by kernel_rfl) (by kernel_rfl) (by kernel_rfl) B0 ?_
            refine held_pass 33 rfl (by kernel_rfl) (by kernel_rfl) (by kernel_rfl) (by kernel_rfl) B0 ?_
            refine held_pass 34 rfl (by kernel_rfl) (by kernel_rfl) (by kernel_rfl) (by kernel_rfl) B0 ?_
            refine held_pass 35 rfl (by kernel_rfl) (by kernel_rfl) (by kernel_rfl) (by kernel_rfl) B0 ?_
            refine held_pass 36 rfl (by kernel_rfl) (by kernel_rfl) (by kernel_rfl) (by kernel_rfl) B0 ?_
            refine held_pass 37 rfl (by kernel_rfl) (by kernel_rfl) (by kernel_rfl) (by kernel_rfl) B0 ?_
            refine held_free 38 (.bool false) rfl (by kernel_rfl) (by kernel_rfl) (by kernel_rfl) (by kernel_rfl) B0 (fun _ _ => by kernel_rfl) ?_
            refine held_free 39 (.bool false) rfl (by kernel_rfl) (by kernel_rfl) (by kernel_rfl) (by kernel_rfl) B0 (fun _ _ => by kernel_rfl) ?_
            refine held_pass 40 rfl (by kernel_rfl) (by kernel_rfl) (by kernel_rfl) (by kernel_rfl) B0 ?_
            refine held_pass 41 rfl (by kernel_rfl) (by kernel_rfl) (by kernel_rfl) (by kernel_rfl) B0 ?_
            refine held_pass 42 rfl (by kernel_rfl) (by kernel_rfl) (by kernel_rfl) (by kernel_rfl) B0 ?_
            refine held_pass 43 rfl (by kernel_rfl) (by kernel_rfl) (by kernel_rfl) (by kernel_rfl) B0 ?_
            refine held_pass 44 rfl (by kernel_rfl) (by kernel_rfl) (by kernel_rfl) (by kernel_rfl) B0 ?_
            refine held_pass 45 rfl (by kernel_rfl) (by kernel_rfl) (by kernel_rfl) (by kernel_rfl) B0 ?_
            refine held_pass 46 rfl (by kernel_rfl) (by kernel_rfl) (by kernel_rfl) (by kernel_rfl) B0 ?_
            refine held_free 47 (.bool false) rfl (by kernel_rfl) (by kernel_rfl) (by kernel_rfl) (by kernel_rfl) B0 (fun _ _ => by kernel_rfl) ?_
            refine held_free 48 (.bool false) rfl (by kernel_rfl) (by kernel_rfl) (by kernel_rfl) (by kernel_rfl) B0 (fun _ _ => by kernel_rfl) ?_
            refine held_end (by kernel_rfl) ?_
            go_wp2_with fail
            rw [HMM.out]
            exact ret_slot 2 (.bool false) (by kernel_rfl) (by kernel_rfl) (by kernel_rfl) ⟨rfl, by have q := HBV.out.trans (B0.mono HBV.out.size); first | exact q | (rw [HB0.out]; exact q)⟩
        · have H_i0 := Lib.hid (show decide (0 ≤ id) = true from decide_eq_true h_i0)
          have H_i1 := Lib.hid (show decide (id ≤ 255) = true from decide_eq_true h_i1)
          have H_s4 := Lib.hid (show decide ((ip.size : Int) = 4) = true from decide_eq_true h_s4)
          have H_p0 := Lib.hid (show decide (0 ≤ port) = false from decide_eq_false h_p0)
          have HX := Lib.hid hx0
          have HMM := Lib.hid (show M = false from hM.trans (decide_eq_false fun m => h_p0 m.2.2.1.1))
          have HB0 := Lib.hid hb0
          have HVE := Lib.hid hV
          clear hx0 hb0 hV hM h_i0 h_i1 h_s4 h_p0
          go_enter Try.func22, Try.ntmps22
          go_upto_region 1 with fail
          rw [← HVE.out, ← HB0.out]
          clear HVE
          have B0 : Below V.heap.size V V.drew := (Below.refl _ V).drew
          refine held_start (fun W => Below V.heap.size V W) (by kernel_rfl) (n := 49) rfl ?_
          obtain ⟨W0, hW0⟩ : ∃ W0, W0 = V.drew := ⟨_, rfl⟩
          rw [← hW0] at B0 ⊢
          clear hW0
          refine held_free 0 (.pointer (some ⟨b0, 1, none⟩)) rfl (by kernel_rfl) (by kernel_rfl) (by kernel_rfl) (by kernel_rfl) B0 (fun _ _ => ex_field (v := .pointer (some ⟨b0, 0, none⟩)) 23 (.tmp 1) 1 (by kernel_rfl) (by kernel_rfl) (by kernel_rfl)) ?_
          refine held_free 1 (.int .i64 id) rfl (by kernel_rfl) (by kernel_rfl) (by kernel_rfl) (by kernel_rfl) B0 (fun W b => ex_load 3 (.tmp 3) (by kernel_rfl) ⟨b0, 1, none⟩ (by kernel_rfl) (by kernel_rfl) ((HX.out.below b HX.out.lt).cell 1)) ?_
          refine held_free 2 (.bool true) rfl (by kernel_rfl) (by kernel_rfl) (by kernel_rfl) (by kernel_rfl) B0 (fun _ _ => ex_intleb .i64 3 3 (.const (.int .i64 0)) (.tmp 4) (by kernel_rfl) (0) (id) (by kernel_rfl) (by kernel_rfl) (by kernel_rfl) true (H_i0.out)) ?_
          refine held_free 3 (.bool true) rfl (by kernel_rfl) (by kernel_rfl) (by kernel_rfl) (by kernel_rfl) B0 (fun _ _ => by kernel_rfl) ?_
          refine held_free 4 (.pointer (some ⟨b0, 1, none⟩)) rfl (by kernel_rfl) (by kernel_rfl) (by kernel_rfl) (by kernel_rfl) B0 (fun _ _ => ex_field (v := .pointer (some ⟨b0, 0, none⟩)) 23 (.tmp 1) 1 (by kernel_rfl) (by kernel_rfl) (by kernel_rfl)) ?_
          refine held_free 5 (.int .i64 id) rfl (by kernel_rfl) (by kernel_rfl) (by kernel_rfl) (by kernel_rfl) B0 (fun W b => ex_load 3 (.tmp 7) (by kernel_rfl) ⟨b0, 1, none⟩ (by kernel_rfl) (by kernel_rfl) ((HX.out.below b HX.out.lt).cell 1)) ?_
          refine held_free 6 (.bool true) rfl (by kernel_rfl) (by kernel_rfl) (by kernel_rfl) (by kernel_rfl) B0 (fun _ _ => ex_intleb .i64 3 3 (.tmp 8) (.const (.int .i64 255)) (by kernel_rfl) (id) (255) (by kernel_rfl) (by kernel_rfl) (by kernel_rfl) true (H_i1.out)) ?_
          refine held_free 7 (.bool true) rfl (by kernel_rfl) (by kernel_rfl) (by kernel_rfl) (by kernel_rfl) B0 (fun _ _ => by kernel_rfl) ?_
          refine held_free 8 (.bool true) rfl (by kernel_rfl) (by kernel_rfl) (by kernel_rfl) (by kernel_rfl) B0 (fun _ _ => by kernel_rfl) ?_
          refine held_free 9 (.pointer (some ⟨b0, 2, none⟩)) rfl (by kernel_rfl) (by kernel_rfl) (by kernel_rfl) (by kernel_rfl) B0 (fun _ _ => ex_field (v := .pointer (some ⟨b0, 0, none⟩)) 23 (.tmp 1) 2 (by kernel_rfl) (by kernel_rfl) (by kernel_rfl)) ?_
          refine held_free 10 (.string ip) rfl (by kernel_rfl) (by kernel_rfl) (by kernel_rfl) (by kernel_rfl) B0 (fun W b => ex_load 9 (.tmp 12) (by kernel_rfl) ⟨b0, 2, none⟩ (by kernel_rfl) (by kernel_rfl) ((HX.out.below b HX.out.lt).cell 2)) ?_
          refine held_free 11 (.int .i64 (ip.size : Int)) rfl (by kernel_rfl) (by kernel_rfl) (by kernel_rfl) (by kernel_rfl) B0 (fun _ _ => by kernel_rfl) ?_
          refine held_free 12 (.bool true) rfl (by kernel_rfl) (by kernel_rfl) (by kernel_rfl) (by kernel_rfl) B0 (fun _ _ => ex_inteqb .i64 3 3 (.tmp 14) (.const (.int .i64 4)) (by kernel_rfl) ((ip.size : Int)) (4) (by kernel_rfl) (by kernel_rfl) (by kernel_rfl) true (H_s4.out)) ?_
          refine held_free 13 (.bool true) rfl (by kernel_rfl) (by kernel_rfl) (by kernel_rfl) (by kernel_rfl) B0 (fun _ _ => by kernel_rfl) ?_
          refine held_pass 14 rfl (by kernel_rfl) (by kernel_rfl) (by kernel_rfl) (by kernel_rfl) B0 ?_
          refine held_pass 15 rfl (by kernel_rfl) (by kernel_rfl) (by kernel_rfl) (by kernel_rfl) B0 ?_
          refine held_pass 16 rfl (by kernel_rfl) (by kernel_rfl) (by kernel_rfl) (by kernel_rfl) B0 ?_
          refine held_pass 17 rfl (by kernel_rfl) (by kernel_rfl) (by kernel_rfl) (by kernel_rfl) B0 ?_
          refine held_free 18 (.bool true) rfl (by kernel_rfl) (by kernel_rfl) (by kernel_rfl) (by kernel_rfl) B0 (fun _ _ => by kernel_rfl) ?_
          refine held_free 19 (.bool true) rfl (by kernel_rfl) (by kernel_rfl) (by kernel_rfl) (by kernel_rfl) B0 (fun _ _ => by kernel_rfl) ?_
          refine held_free 20 (.bool true) rfl (by kernel_rfl) (by kernel_rfl) (by kernel_rfl) (by kernel_rfl) B0 (fun _ _ => by kernel_rfl) ?_
          refine held_free 21 (.pointer (some ⟨b0, 4, none⟩)) rfl (by kernel_rfl) (by kernel_rfl) (by kernel_rfl) (by kernel_rfl) B0 (fun _ _ => ex_field (v := .pointer (some ⟨b0, 0, none⟩)) 23 (.tmp 1) 4 (by kernel_rfl) (by kernel_rfl) (by kernel_rfl)) ?_
          refine held_free 22 (.int .i64 port) rfl (by kernel_rfl) (by kernel_rfl) (by kernel_rfl) (by kernel_rfl) B0 (fun W b => ex_load 3 (.tmp 24) (by kernel_rfl) ⟨b0, 4, none⟩ (by kernel_rfl) (by kernel_rfl) ((HX.out.below b HX.out.lt).cell 4)) ?_
          refine held_free 23 (.bool false) rfl (by kernel_rfl) (by kernel_rfl) (by kernel_rfl) (by kernel_rfl) B0 (fun _ _ => ex_intleb .i64 3 3 (.const (.int .i64 0)) (.tmp 25) (by kernel_rfl) (0) (port) (by kernel_rfl) (by kernel_rfl) (by kernel_rfl) false (H_p0.out)) ?_
          refine held_free 24 (.bool false) rfl (by kernel_rfl) (by kernel_rfl) (by kernel_rfl) (by kernel_rfl) B0 (fun _ _ => by kernel_rfl) ?_
          refine held_free 25 (.bool false) rfl (by kernel_rfl) (by kernel_rfl) (by kernel_rfl) (by kernel_rfl) B0 (fun _ _ => by kernel_rfl) ?_
          refine held_pass 26 rfl (by kernel_rfl) (by kernel_rfl) (by kernel_rfl) (by kernel_rfl) B0 ?_
          refine held_pass 27 rfl (by kernel_rfl) (by kernel_rfl) (by kernel_rfl) (by kernel_rfl) B0 ?_
          refine held_pass 28 rfl (by kernel_rfl) (by kernel_rfl) (by kernel_rfl) (by kernel_rfl) B0 ?_
          refine held_free 29 (.bool false) rfl (by kernel_rfl) (by kernel_rfl) (by kernel_rfl) (by kernel_rfl) B0 (fun _ _ => by kernel_rfl) ?_
          refine held_free 30 (.bool false) rfl (by kernel_rfl) (by kernel_rfl) (by kernel_rfl) (by kernel_rfl) B0 (fun _ _ => by kernel_rfl) ?_
          refine held_pass 31 rfl (by kernel_rfl) (by kernel_rfl) (by kernel_rfl) (by kernel_rfl) B0 ?_
          refine held_pass 32 rfl (by kernel_rfl) (by kernel_rfl) (by kernel_rfl) (by kernel_rfl) B0 ?_
          refine held_pass 33 rfl (by kernel_rfl) (by kernel_rfl) (by kernel_rfl) (by kernel_rfl) B0 ?_
          refine held_pass 34 rfl (by kernel_rfl) (by kernel_rfl) (by kernel_rfl) (by kernel_rfl) B0 ?_
          refine held_pass 35 rfl (by kernel_rfl) (by kernel_rfl) (by kernel_rfl) (by kernel_rfl) B0 ?_
          refine held_pass 36 rfl (by kernel_rfl) (by kernel_rfl) (by kernel_rfl) (by kernel_rfl) B0 ?_
          refine held_pass 37 rfl (by kernel_rfl) (by kernel_rfl) (by kernel_rfl) (by kernel_rfl) B0 ?_
          refine held_free 38 (.bool false) rfl (by kernel_rfl) (by kernel_rfl) (by kernel_rfl) (by kernel_rfl) B0 (fun _ _ => by kernel_rfl) ?_
          refine held_free 39 (.bool false) rfl (by kernel_rfl) (by kernel_rfl) (by kernel_rfl) (by kernel_rfl) B0 (fun _ _ => by kernel_rfl) ?_
          refine held_pass 40 rfl (by kernel_rfl) (by kernel_rfl) (by kernel_rfl) (by kernel_rfl) B0 ?_
          refine held_pass 41 rfl (by kernel_rfl) (by kernel_rfl) (by kernel_rfl) (by kernel_rfl) B0 ?_
          refine held_pass 42 rfl (by kernel_rfl) (by kernel_rfl) (by kernel_rfl) (by kernel_rfl) B0 ?_
          refine held_pass 43 rfl (by kernel_rfl) (by kernel_rfl) (by kernel_rfl) (by kernel_rfl) B0 ?_
          refine held_pass 44 rfl (by kernel_rfl) (by kernel_rfl) (by kernel_rfl) (by kernel_rfl) B0 ?_
          refine held_pass 45 rfl (by kernel_rfl) (by kernel_rfl) (by kernel_rfl) (by kernel_rfl) B0 ?_
          refine held_pass 46 rfl (by kernel_rfl) (by kernel_rfl) (by kernel_rfl) (by kernel_rfl) B0 ?_
          refine held_free 47 (.bool false) rfl (by kernel_rfl) (by kernel_rfl) (by kernel_rfl) (by kernel_rfl) B0 (fun _ _ => by kernel_rfl) ?_
          refine held_free 48 (.bool false) rfl (by kernel_rfl) (by kernel_rfl) (by kernel_rfl) (by kernel_rfl) B0 (fun _ _ => by kernel_rfl) ?_
          refine held_end (by kernel_rfl) ?_
          go_wp2_with fail
          rw [HMM.out]
          exact ret_slot 2 (.bool false) (by kernel_rfl) (by kernel_rfl) (by kernel_rfl) ⟨rfl, by have q := HBV.out.trans (B0.mono HBV.out.size); first | exact q | (rw [HB0.out]; exact q)⟩
      · by_cases h_s16 : (ip.size : Int) = 16
        · by_cases h_p0 : 0 ≤ port
          · by_cases h_p1 : port ≤ 65535
            · by_cases h_mc : (mac.size : Int) = (macOf echo : Int)
              · have H_i0 := Lib.hid (show decide (0 ≤ id) = true from decide_eq_true h_i0)
                have H_i1 := Lib.hid (show decide (id ≤ 255) = true from decide_eq_true h_i1)
                have H_s4 := Lib.hid (show decide ((ip.size : Int) = 4) = false from decide_eq_false h_s4)
                have H_s16 := Lib.hid (show decide ((ip.size : Int) = 16) = true from decide_eq_true h_s16)
                have H_p0 := Lib.hid (show decide (0 ≤ port) = true from decide_eq_true h_p0)
                have H_p1 := Lib.hid (show decide (port ≤ 65535) = true from decide_eq_true h_p1)
                have H_mc := Lib.hid (show decide ((mac.size : Int) = (macOf echo : Int)) = true from decide_eq_true h_mc)
                have HX := Lib.hid hx0
                have HMM := Lib.hid (show M = true from hM.trans (decide_eq_true ⟨⟨h_i0, h_i1⟩, .inr (show ip.size = 16 by omega), ⟨h_p0, h_p1⟩, .inl rfl, by show mac.size = macOf echo; omega⟩))
                have HB0 := Lib.hid hb0
                have HVE := Lib.hid hV
                clear hx0 hb0 hV hM h_i0 h_i1 h_s4 h_s16 h_p0 h_p1 h_mc
                go_enter Try.func22, Try.ntmps22
                go_upto_region 1 with fail
                rw [← HVE.out, ← HB0.out]
                clear HVE
                have B0 : Below V.heap.size V V.drew := (Below.refl _ V).drew
                refine held_start (fun W => Below V.heap.size V W) (by kernel_rfl) (n := 49) rfl ?_
                obtain ⟨W0, hW0⟩ : ∃ W0, W0 = V.drew := ⟨_, rfl⟩
                rw [← hW0] at B0 ⊢
                clear hW0
                refine held_free 0 (.pointer (some ⟨b0, 1, none⟩)) rfl (by kernel_rfl) (by kernel_rfl) (by kernel_rfl) (by kernel_rfl) B0 (fun _ _ => ex_field (v := .pointer (some ⟨b0, 0, none⟩)) 23 (.tmp 1) 1 (by kernel_rfl) (by kernel_rfl) (by kernel_rfl)) ?_
                refine held_free 1 (.int .i64 id) rfl (by kernel_rfl) (by kernel_rfl) (by kernel_rfl) (by kernel_rfl) B0 (fun W b => ex_load 3 (.tmp 3) (by kernel_rfl) ⟨b0, 1, none⟩ (by kernel_rfl) (by kernel_rfl) ((HX.out.below b HX.out.lt).cell 1)) ?_
                refine held_free 2 (.bool true) rfl (by kernel_rfl) (by kernel_rfl) (by kernel_rfl) (by kernel_rfl) B0 (fun _ _ => ex_intleb .i64 3 3 (.const (.int .i64 0)) (.tmp 4) (by kernel_rfl) (0) (id) (by kernel_rfl) (by kernel_rfl) (by kernel_rfl) true (H_i0.out)) ?_
                refine held_free 3 (.bool true) rfl (by kernel_rfl) (by kernel_rfl) (by kernel_rfl) (by kernel_rfl) B0 (fun _ _ => by kernel_rfl) ?_
                refine held_free 4 (.pointer (some ⟨b0, 1, none⟩)) rfl (by kernel_rfl) (by kernel_rfl) (by kernel_rfl) (by kernel_rfl) B0 (fun _ _ => ex_field (v := .pointer (some ⟨b0, 0, none⟩)) 23 (.tmp 1) 1 (by kernel_rfl) (by kernel_rfl) (by kernel_rfl)) ?_
                refine held_free 5 (.int .i64 id) rfl (by kernel_rfl) (by kernel_rfl) (by kernel_rfl) (by kernel_rfl) B0 (fun W b => ex_load 3 (.tmp 7) (by kernel_rfl) ⟨b0, 1, none⟩ (by kernel_rfl) (by kernel_rfl) ((HX.out.below b HX.out.lt).cell 1)) ?_
                refine held_free 6 (.bool true) rfl (by kernel_rfl) (by kernel_rfl) (by kernel_rfl) (by kernel_rfl) B0 (fun _ _ => ex_intleb .i64 3 3 (.tmp 8) (.const (.int .i64 255)) (by kernel_rfl) (id) (255) (by kernel_rfl) (by kernel_rfl) (by kernel_rfl) true (H_i1.out)) ?_
                refine held_free 7 (.bool true) rfl (by kernel_rfl) (by kernel_rfl) (by kernel_rfl) (by kernel_rfl) B0 (fun _ _ => by kernel_rfl) ?_
                refine held_free 8 (.bool true) rfl (by kernel_rfl) (by kernel_rfl) (by kernel_rfl) (by kernel_rfl) B0 (fun _ _ => by kernel_rfl) ?_
                refine held_free 9 (.pointer (some ⟨b0, 2, none⟩)) rfl (by kernel_rfl) (by kernel_rfl) (by kernel_rfl) (by kernel_rfl) B0 (fun _ _ => ex_field (v := .pointer (some ⟨b0, 0, none⟩)) 23 (.tmp 1) 2 (by kernel_rfl) (by kernel_rfl) (by kernel_rfl)) ?_
                refine held_free 10 (.string ip) rfl (by kernel_rfl) (by kernel_rfl) (by kernel_rfl) (by kernel_rfl) B0 (fun W b => ex_load 9 (.tmp 12) (by kernel_rfl) ⟨b0, 2, none⟩ (by kernel_rfl) (by kernel_rfl) ((HX.out.below b HX.out.lt).cell 2)) ?_
                refine held_free 11 (.int .i64 (ip.size : Int)) rfl (by kernel_rfl) (by kernel_rfl) (by kernel_rfl) (by kernel_rfl) B0 (fun _ _ => by kernel_rfl) ?_
                refine held_free 12 (.bool false) rfl (by kernel_rfl) (by kernel_rfl) (by kernel_rfl) (by kernel_rfl) B0 (fun _ _ => ex_inteqb .i64 3 3 (.tmp 14) (.const (.int .i64 4)) (by kernel_rfl) ((ip.size : Int)) (4) (by kernel_rfl) (by kernel_rfl) (by kernel_rfl) false (H_s4.out)) ?_
                refine held_free 13 (.bool false) rfl (by kernel_rfl) (by kernel_rfl) (by kernel_rfl) (by kernel_rfl) B0 (fun _ _ => by kernel_rfl) ?_
                refine held_free 14 (.pointer (some ⟨b0, 2, none⟩)) rfl (by kernel_rfl) (by kernel_rfl) (by kernel_rfl) (by kernel_rfl) B0 (fun _ _ => ex_field (v := .pointer (some ⟨b0, 0, none⟩)) 23 (.tmp 1) 2 (by kernel_rfl) (by kernel_rfl) (by kernel_rfl)) ?_
                refine held_free 15 (.string ip) rfl (by kernel_rfl) (by kernel_rfl) (by kernel_rfl) (by kernel_rfl) B0 (fun W b => ex_load 9 (.tmp 17) (by kernel_rfl) ⟨b0, 2, none⟩ (by kernel_rfl) (by kernel_rfl) ((HX.out.below b HX.out.lt).cell 2)) ?_
                refine held_free 16 (.int .i64 (ip.size : Int)) rfl (by kernel_rfl) (by kernel_rfl) (by kernel_rfl) (by kernel_rfl) B0 (fun _ _ => by kernel_rfl) ?_
                refine held_free 17 (.bool true) rfl (by kernel_rfl) (by kernel_rfl) (by kernel_rfl) (by kernel_rfl) B0 (fun _ _ => ex_inteqb .i64 3 3 (.tmp 19) (.const (.int .i64 16)) (by kernel_rfl) ((ip.size : Int)) (16) (by kernel_rfl) (by kernel_rfl) (by kernel_rfl) true (H_s16.out)) ?_
                refine held_free 18 (.bool true) rfl (by kernel_rfl) (by kernel_rfl) (by kernel_rfl) (by kernel_rfl) B0 (fun _ _ => by kernel_rfl) ?_
                refine held_free 19 (.bool true) rfl (by kernel_rfl) (by kernel_rfl) (by kernel_rfl) (by kernel_rfl) B0 (fun _ _ => by kernel_rfl) ?_
                refine held_free 20 (.bool true) rfl (by kernel_rfl) (by kernel_rfl) (by kernel_rfl) (by kernel_rfl) B0 (fun _ _ => by kernel_rfl) ?_
                refine held_free 21 (.pointer (some ⟨b0, 4, none⟩)) rfl (by kernel_rfl) (by kernel_rfl) (by kernel_rfl) (by kernel_rfl) B0 (fun _ _ => ex_field (v := .pointer (some ⟨b0, 0, none⟩)) 23 (.tmp 1) 4 (by kernel_rfl) (by kernel_rfl) (by kernel_rfl)) ?_
                refine held_free 22 (.int .i64 port) rfl (by kernel_rfl) (by kernel_rfl) (by kernel_rfl) (by kernel_rfl) B0 (fun W b => ex_load 3 (.tmp 24) (by kernel_rfl) ⟨b0, 4, none⟩ (by kernel_rfl) (by kernel_rfl) ((HX.out.below b HX.out.lt).cell 4)) ?_
                refine held_free 23 (.bool true) rfl (by kernel_rfl) (by kernel_rfl) (by kernel_rfl) (by kernel_rfl) B0 (fun _ _ => ex_intleb .i64 3 3 (.const (.int .i64 0)) (.tmp 25) (by kernel_rfl) (0) (port) (by kernel_rfl) (by kernel_rfl) (by kernel_rfl) true (H_p0.out)) ?_
                refine held_free 24 (.bool true) rfl (by kernel_rfl) (by kernel_rfl) (by kernel_rfl) (by kernel_rfl) B0 (fun _ _ => by kernel_rfl) ?_
                refine held_free 25 (.bool true) rfl (by kernel_rfl) (by kernel_rfl) (by kernel_rfl) (by kernel_rfl) B0 (fun _ _ => by kernel_rfl) ?_
                refine held_free 26 (.pointer (some ⟨b0, 4, none⟩)) rfl (by kernel_rfl) (by kernel_rfl) (by kernel_rfl) (by kernel_rfl) B0 (fun _ _ => ex_field (v := .pointer (some ⟨b0, 0, none⟩)) 23 (.tmp 1) 4 (by kernel_rfl) (by kernel_rfl) (by kernel_rfl)) ?_
                refine held_free 27 (.int .i64 port) rfl (by kernel_rfl) (by kernel_rfl) (by kernel_rfl) (by kernel_rfl) B0 (fun W b => ex_load 3 (.tmp 29) (by kernel_rfl) ⟨b0, 4, none⟩ (by kernel_rfl) (by kernel_rfl) ((HX.out.below b HX.out.lt).cell 4)) ?_
                refine held_free 28 (.bool true) rfl (by kernel_rfl) (by kernel_rfl) (by kernel_rfl) (by kernel_rfl) B0 (fun _ _ => ex_intleb .i64 3 3 (.tmp 30) (.const (.int .i64 65535)) (by kernel_rfl) (port) (65535) (by kernel_rfl) (by kernel_rfl) (by kernel_rfl) true (H_p1.out)) ?_
                refine held_free 29 (.bool true) rfl (by kernel_rfl) (by kernel_rfl) (by kernel_rfl) (by kernel_rfl) B0 (fun _ _ => by kernel_rfl) ?_
                refine held_free 30 (.bool true) rfl (by kernel_rfl) (by kernel_rfl) (by kernel_rfl) (by kernel_rfl) B0 (fun _ _ => by kernel_rfl) ?_
                refine held_free 31 (.pointer (some ⟨b0, 3, none⟩)) rfl (by kernel_rfl) (by kernel_rfl) (by kernel_rfl) (by kernel_rfl) B0 (fun _ _ => ex_field (v := .pointer (some ⟨b0, 0, none⟩)) 23 (.tmp 1) 3 (by kernel_rfl) (by kernel_rfl) (by kernel_rfl)) ?_
                refine held_free 32 (.bool true) rfl (by kernel_rfl) (by kernel_rfl) (by kernel_rfl) (by kernel_rfl) B0 (fun W b => ex_load 4 (.tmp 34) (by kernel_rfl) ⟨b0, 3, none⟩ (by kernel_rfl) (by kernel_rfl) ((HX.out.below b HX.out.lt).cell 3)) ?_
                refine held_free 33 (.bool true) rfl (by kernel_rfl) (by kernel_rfl) (by kernel_rfl) (by kernel_rfl) B0 (fun _ _ => by kernel_rfl) ?_
                refine held_pass 34 rfl (by kernel_rfl) (by kernel_rfl) (by kernel_rfl) (by kernel_rfl) B0 ?_
                refine held_pass 35 rfl (by kernel_rfl) (by kernel_rfl) (by kernel_rfl) (by kernel_rfl) B0 ?_
                refine held_pass 36 rfl (by kernel_rfl) (by kernel_rfl) (by kernel_rfl) (by kernel_rfl) B0 ?_
                refine held_free 37 (.bool true) rfl (by kernel_rfl) (by kernel_rfl) (by kernel_rfl) (by kernel_rfl) B0 (fun _ _ => by kernel_rfl) ?_
                refine held_free 38 (.bool true) rfl (by kernel_rfl) (by kernel_rfl) (by kernel_rfl) (by kernel_rfl) B0 (fun _ _ => by kernel_rfl) ?_
                refine held_free 39 (.bool true) rfl (by kernel_rfl) (by kernel_rfl) (by kernel_rfl) (by kernel_rfl) B0 (fun _ _ => by kernel_rfl) ?_
                refine held_free 40 (.pointer (some ⟨b0, 5, none⟩)) rfl (by kernel_rfl) (by kernel_rfl) (by kernel_rfl) (by kernel_rfl) B0 (fun _ _ => ex_field (v := .pointer (some ⟨b0, 0, none⟩)) 23 (.tmp 1) 5 (by kernel_rfl) (by kernel_rfl) (by kernel_rfl)) ?_
                refine held_free 41 (.string mac) rfl (by kernel_rfl) (by kernel_rfl) (by kernel_rfl) (by kernel_rfl) B0 (fun W b => ex_load 9 (.tmp 43) (by kernel_rfl) ⟨b0, 5, none⟩ (by kernel_rfl) (by kernel_rfl) ((HX.out.below b HX.out.lt).cell 5)) ?_
                refine held_free 42 (.int .i64 (mac.size : Int)) rfl (by kernel_rfl) (by kernel_rfl) (by kernel_rfl) (by kernel_rfl) B0 (fun _ _ => by kernel_rfl) ?_
                refine held_free 43 (.pointer (some ⟨b0, 0, none⟩)) rfl (by kernel_rfl) (by kernel_rfl) (by kernel_rfl) (by kernel_rfl) B0 (fun _ _ => ex_field (v := .pointer (some ⟨b0, 0, none⟩)) 23 (.tmp 1) 0 (by kernel_rfl) (by kernel_rfl) (by kernel_rfl)) ?_
                refine held_free 44 (.bool echo) rfl (by kernel_rfl) (by kernel_rfl) (by kernel_rfl) (by kernel_rfl) B0 (fun W b => ex_load 4 (.tmp 46) (by kernel_rfl) ⟨b0, 0, none⟩ (by kernel_rfl) (by kernel_rfl) ((HX.out.below b HX.out.lt).cell 0)) ?_
                refine held_call 45 rfl (by kernel_rfl) (by kernel_rfl) (by kernel_rfl) (macSizeOf_any echo _) (fun w' h => bel_in B0 h) ?_
                intro W1 hW1
                have B1 := bel_in B0 hW1
                clear hW1 B0
                refine held_free 46 (.bool true) rfl (by kernel_rfl) (by kernel_rfl) (by kernel_rfl) (by kernel_rfl) B1 (fun _ _ => ex_inteqb .i64 3 3 (.tmp 45) (.tmp 48) (by kernel_rfl) ((mac.size : Int)) ((macOf echo : Int)) (by kernel_rfl) (by kernel_rfl) (by kernel_rfl) true (H_mc.out)) ?_
                refine held_free 47 (.bool true) rfl (by kernel_rfl) (by kernel_rfl) (by kernel_rfl) (by kernel_rfl) B1 (fun _ _ => by kernel_rfl) ?_
                refine held_free 48 (.bool true) rfl (by kernel_rfl) (by kernel_rfl) (by kernel_rfl) (by kernel_rfl) B1 (fun _ _ => by kernel_rfl) ?_
                refine held_end (by kernel_rfl) ?_
                go_wp2_with fail
                rw [HMM.out]
                exact ret_slot 2 (.bool true) (by kernel_rfl) (by kernel_rfl) (by kernel_rfl) ⟨rfl, by have q := HBV.out.trans (B1.mono HBV.out.size); first | exact q | (rw [HB0.out]; exact q)⟩
              · have H_i0 := Lib.hid (show decide (0 ≤ id) = true from decide_eq_true h_i0)
                have H_i1 := Lib.hid (show decide (id ≤ 255) = true from decide_eq_true h_i1)
                have H_s4 := Lib.hid (show decide ((ip.size : Int) = 4) = false from decide_eq_false h_s4)
                have H_s16 := Lib.hid (show decide ((ip.size : Int) = 16) = true from decide_eq_true h_s16)
                have H_p0 := Lib.hid (show decide (0 ≤ port) = true from decide_eq_true h_p0)
                have H_p1 := Lib.hid (show decide (port ≤ 65535) = true from decide_eq_true h_p1)
                have H_mc := Lib.hid (show decide ((mac.size : Int) = (macOf echo : Int)) = false from decide_eq_false h_mc)
                have HX := Lib.hid hx0
                have HMM := Lib.hid (show M = false from hM.trans (decide_eq_false fun m => h_mc (by have q : mac.size = macOf echo := m.2.2.2.2; omega)))
                have HB0 := Lib.hid hb0
                have HVE := Lib.hid hV
                clear hx0 hb0 hV hM h_i0 h_i1 h_s4 h_s16 h_p0 h_p1 h_mc
                go_enter Try.func22, Try.ntmps22
                go_upto_region 1 with fail
                rw [← HVE.out, ← HB0.out]
                clear HVE
                have B0 : Below V.heap.size V V.drew := (Below.refl _ V).drew
                refine held_start (fun W => Below V.heap.size V W) (by kernel_rfl) (n := 49) rfl ?_
                obtain ⟨W0, hW0⟩ : ∃ W0, W0 = V.drew := ⟨_, rfl⟩
                rw [← hW0] at B0 ⊢
                clear hW0
                refine held_free 0 (.pointer (some ⟨b0, 1, none⟩)) rfl (by kernel_rfl) (by kernel_rfl) (by kernel_rfl) (by kernel_rfl) B0 (fun _ _ => ex_field (v := .pointer (some ⟨b0, 0, none⟩)) 23 (.tmp 1) 1 (by kernel_rfl) (by kernel_rfl) (by kernel_rfl)) ?_
                refine held_free 1 (.int .i64 id) rfl (by kernel_rfl) (by kernel_rfl) (by kernel_rfl) (by kernel_rfl) B0 (fun W b => ex_load 3 (.tmp 3) (by kernel_rfl) ⟨b0, 1, none⟩ (by kernel_rfl) (by kernel_rfl) ((HX.out.below b HX.out.lt).cell 1)) ?_
                refine held_free 2 (.bool true) rfl (by kernel_rfl) (by kernel_rfl) (by kernel_rfl) (by kernel_rfl) B0 (fun _ _ => ex_intleb .i64 3 3 (.const (.int .i64 0)) (.tmp 4) (by kernel_rfl) (0) (id) (by kernel_rfl) (by kernel_rfl) (by kernel_rfl) true (H_i0.out)) ?_
                refine held_free 3 (.bool true) rfl (by kernel_rfl) (by kernel_rfl) (by kernel_rfl) (by kernel_rfl) B0 (fun _ _ => by kernel_rfl) ?_
                refine held_free 4 (.pointer (some ⟨b0, 1, none⟩)) rfl (by kernel_rfl) (by kernel_rfl) (by kernel_rfl) (by kernel_rfl) B0 (fun _ _ => ex_field (v := .pointer (some ⟨b0, 0, none⟩)) 23 (.tmp 1) 1 (by kernel_rfl) (by kernel_rfl) (by kernel_rfl)) ?_
                refine held_free 5 (.int .i64 id) rfl (by kernel_rfl) (by kernel_rfl) (by kernel_rfl) (by kernel_rfl) B0 (fun W b => ex_load 3 (.tmp 7) (by kernel_rfl) ⟨b0, 1, none⟩ (by kernel_rfl) (by kernel_rfl) ((HX.out.below b HX.out.lt).cell 1)) ?_
                refine held_free 6 (.bool true) rfl (by kernel_rfl) (by kernel_rfl) (by kernel_rfl) (by kernel_rfl) B0 (fun _ _ => ex_intleb .i64 3 3 (.tmp 8) (.const (.int .i64 255)) (by kernel_rfl) (id) (255) (by kernel_rfl) (by kernel_rfl) (by kernel_rfl) true (H_i1.out)) ?_
                refine held_free 7 (.bool true) rfl (by kernel_rfl) (by kernel_rfl) (by kernel_rfl) (by kernel_rfl) B0 (fun _ _ => by kernel_rfl) ?_
                refine held_free 8 (.bool true) rfl (by kernel_rfl) (by kernel_rfl) (by kernel_rfl) (by kernel_rfl) B0 (fun _ _ => by kernel_rfl) ?_
                refine held_free 9 (.pointer (some ⟨b0, 2, none⟩)) rfl (by kernel_rfl) (by kernel_rfl) (by kernel_rfl) (by kernel_rfl) B0 (fun _ _ => ex_field (v := .pointer (some ⟨b0, 0, none⟩)) 23 (.tmp 1) 2 (by kernel_rfl) (by kernel_rfl) (by kernel_rfl)) ?_
                refine held_free 10 (.string ip) rfl (by kernel_rfl) (by kernel_rfl) (by kernel_rfl) (by kernel_rfl) B0 (fun W b => ex_load 9 (.tmp 12) (by kernel_rfl) ⟨b0, 2, none⟩ (by kernel_rfl) (by kernel_rfl) ((HX.out.below b HX.out.lt).cell 2)) ?_
                refine held_free 11 (.int .i64 (ip.size : Int)) rfl (by kernel_rfl) (by kernel_rfl) (by kernel_rfl) (by kernel_rfl) B0 (fun _ _ => by kernel_rfl) ?_
                refine held_free 12 (.bool false) rfl (by kernel_rfl) (by kernel_rfl) (by kernel_rfl) (by kernel_rfl) B0 (fun _ _ => ex_inteqb .i64 3 3 (.tmp 14) (.const (.int .i64 4)) (by kernel_rfl) ((ip.size : Int)) (4) (by kernel_rfl) (by kernel_rfl) (by kernel_rfl) false (H_s4.out)) ?_
                refine held_free 13 (.bool false) rfl (by kernel_rfl) (by kernel_rfl) (by kernel_rfl) (by kernel_rfl) B0 (fun _ _ => by kernel_rfl) ?_
                refine held_free 14 (.pointer (some ⟨b0, 2, none⟩)) rfl (by kernel_rfl) (by kernel_rfl) (by kernel_rfl) (by kernel_rfl) B0 (fun _ _ => ex_field (v := .pointer (some ⟨b0, 0, none⟩)) 23 (.tmp 1) 2 (by kernel_rfl) (by kernel_rfl) (by kernel_rfl)) ?_
                refine held_free 15 (.string ip) rfl (by kernel_rfl) (by kernel_rfl) (by kernel_rfl) (by kernel_rfl) B0 (fun W b => ex_load 9 (.tmp 17) (by kernel_rfl) ⟨b0, 2, none⟩ (by kernel_rfl) (by kernel_rfl) ((HX.out.below b HX.out.lt).cell 2)) ?_
                refine held_free 16 (.int .i64 (ip.size : Int)) rfl (by kernel_rfl) (by kernel_rfl) (by kernel_rfl) (by kernel_rfl) B0 (fun _ _ => by kernel_rfl) ?_
                refine held_free 17 (.bool true) rfl (by kernel_rfl) (by kernel_rfl) (by kernel_rfl) (by kernel_rfl) B0 (fun _ _ => ex_inteqb .i64 3 3 (.tmp 19) (.const (.int .i64 16)) (by kernel_rfl) ((ip.size : Int)) (16) (by kernel_rfl) (by kernel_rfl) (by kernel_rfl) true (H_s16.out)) ?_
                refine held_free 18 (.bool true) rfl (by kernel_rfl) (by kernel_rfl) (by kernel_rfl) (by kernel_rfl) B0 (fun _ _ => by kernel_rfl) ?_
                refine held_free 19 (.bool true) rfl (by kernel_rfl) (by kernel_rfl) (by kernel_rfl) (by kernel_rfl) B0 (fun _ _ => by kernel_rfl) ?_
                refine held_free 20 (.bool true) rfl (by kernel_rfl) (by kernel_rfl) (by kernel_rfl) (by kernel_rfl) B0 (fun _ _ => by kernel_rfl) ?_
                refine held_free 21 (.pointer (some ⟨b0, 4, none⟩)) rfl (by kernel_rfl) (by kernel_rfl) (by kernel_rfl) (by kernel_rfl) B0 (fun _ _ => ex_field (v := .pointer (some ⟨b0, 0, none⟩)) 23 (.tmp 1) 4 (by kernel_rfl) (by kernel_rfl) (by kernel_rfl)) ?_
                refine held_free 22 (.int .i64 port) rfl (by kernel_rfl) (by kernel_rfl) (by kernel_rfl) (by kernel_rfl) B0 (fun W b => ex_load 3 (.tmp 24) (by kernel_rfl) ⟨b0, 4, none⟩ (by kernel_rfl) (by kernel_rfl) ((HX.out.below b HX.out.lt).cell 4)) ?_
                refine held_free 23 (.bool true) rfl (by kernel_rfl) (by kernel_rfl) (by kernel_rfl) (by kernel_rfl) B0 (fun _ _ => ex_intleb .i64 3 3 (.const (.int .i64 0)) (.tmp 25) (by kernel_rfl) (0) (port) (by kernel_rfl) (by kernel_rfl) (by kernel_rfl) true (H_p0.out)) ?_
                refine held_free 24 (.bool true) rfl (by kernel_rfl) (by kernel_rfl) (by kernel_rfl) (by kernel_rfl) B0 (fun _ _ => by kernel_rfl) ?_
                refine held_free 25 (.bool true) rfl (by kernel_rfl) (by kernel_rfl) (by kernel_rfl) (by kernel_rfl) B0 (fun _ _ => by kernel_rfl) ?_
                refine held_free 26 (.pointer (some ⟨b0, 4, none⟩)) rfl (by kernel_rfl) (by kernel_rfl) (by kernel_rfl) (by kernel_rfl) B0 (fun _ _ => ex_field (v := .pointer (some ⟨b0, 0, none⟩)) 23 (.tmp 1) 4 (by kernel_rfl) (by kernel_rfl) (by kernel_rfl)) ?_
                refine held_free 27 (.int .i64 port) rfl (by kernel_rfl) (by kernel_rfl) (by kernel_rfl) (by kernel_rfl) B0 (fun W b => ex_load 3 (.tmp 29) (by kernel_rfl) ⟨b0, 4, none⟩ (by kernel_rfl) (by kernel_rfl) ((HX.out.below b HX.out.lt).cell 4)) ?_
                refine held_free 28 (.bool true) rfl (by kernel_rfl) (by kernel_rfl) (by kernel_rfl) (by kernel_rfl) B0 (fun _ _ => ex_intleb .i64 3 3 (.tmp 30) (.const (.int .i64 65535)) (by kernel_rfl) (port) (65535) (by kernel_rfl) (by kernel_rfl) (by kernel_rfl) true (H_p1.out)) ?_
                refine held_free 29 (.bool true) rfl (by kernel_rfl) (by kernel_rfl) (by kernel_rfl) (by kernel_rfl) B0 (fun _ _ => by kernel_rfl) ?_
                refine held_free 30 (.bool true) rfl (by kernel_rfl) (by kernel_rfl) (by kernel_rfl) (by kernel_rfl) B0 (fun _ _ => by kernel_rfl) ?_
                refine held_free 31 (.pointer (some ⟨b0, 3, none⟩)) rfl (by kernel_rfl) (by kernel_rfl) (by kernel_rfl) (by kernel_rfl) B0 (fun _ _ => ex_field (v := .pointer (some ⟨b0, 0, none⟩)) 23 (.tmp 1) 3 (by kernel_rfl) (by kernel_rfl) (by kernel_rfl)) ?_
                refine held_free 32 (.bool true) rfl (by kernel_rfl) (by kernel_rfl) (by kernel_rfl) (by kernel_rfl) B0 (fun W b => ex_load 4 (.tmp 34) (by kernel_rfl) ⟨b0, 3, none⟩ (by kernel_rfl) (by kernel_rfl) ((HX.out.below b HX.out.lt).cell 3)) ?_
                refine held_free 33 (.bool true) rfl (by kernel_rfl) (by kernel_rfl) (by kernel_rfl) (by kernel_rfl) B0 (fun _ _ => by kernel_rfl) ?_
                refine held_pass 34 rfl (by kernel_rfl) (by kernel_rfl) (by kernel_rfl) (by kernel_rfl) B0 ?_
                refine held_pass 35 rfl (by kernel_rfl) (by kernel_rfl) (by kernel_rfl) (by kernel_rfl) B0 ?_
                refine held_pass 36 rfl (by kernel_rfl) (by kernel_rfl) (by kernel_rfl) (by kernel_rfl) B0 ?_
                refine held_free 37 (.bool true) rfl (by kernel_rfl) (by kernel_rfl) (by kernel_rfl) (by kernel_rfl) B0 (fun _ _ => by kernel_rfl) ?_
                refine held_free 38 (.bool true) rfl (by kernel_rfl) (by kernel_rfl) (by kernel_rfl) (by kernel_rfl) B0 (fun _ _ => by kernel_rfl) ?_
                refine held_free 39 (.bool true) rfl (by kernel_rfl) (by kernel_rfl) (by kernel_rfl) (by kernel_rfl) B0 (fun _ _ => by kernel_rfl) ?_
                refine held_free 40 (.pointer (some ⟨b0, 5, none⟩)) rfl (by kernel_rfl) (by kernel_rfl) (by kernel_rfl) (by kernel_rfl) B0 (fun _ _ => ex_field (v := .pointer (some ⟨b0, 0, none⟩)) 23 (.tmp 1) 5 (by kernel_rfl) (by kernel_rfl) (by kernel_rfl)) ?_
                refine held_free 41 (.string mac) rfl (by kernel_rfl) (by kernel_rfl) (by kernel_rfl) (by kernel_rfl) B0 (fun W b => ex_load 9 (.tmp 43) (by kernel_rfl) ⟨b0, 5, none⟩ (by kernel_rfl) (by kernel_rfl) ((HX.out.below b HX.out.lt).cell 5)) ?_
                refine held_free 42 (.int .i64 (mac.size : Int)) rfl (by kernel_rfl) (by kernel_rfl) (by kernel_rfl) (by kernel_rfl) B0 (fun _ _ => by kernel_rfl) ?_
                refine held_free 43 (.pointer (some ⟨b0, 0, none⟩)) rfl (by kernel_rfl) (by kernel_rfl) (by kernel_rfl) (by kernel_rfl) B0 (fun _ _ => ex_field (v := .pointer (some ⟨b0, 0, none⟩)) 23 (.tmp 1) 0 (by kernel_rfl) (by kernel_rfl) (by kernel_rfl)) ?_
                refine held_free 44 (.bool echo) rfl (by kernel_rfl) (by kernel_rfl) (by kernel_rfl) (by kernel_rfl) B0 (fun W b => ex_load 4 (.tmp 46) (by kernel_rfl) ⟨b0, 0, none⟩ (by kernel_rfl) (by kernel_rfl) ((HX.out.below b HX.out.lt).cell 0)) ?_
                refine held_call 45 rfl (by kernel_rfl) (by kernel_rfl) (by kernel_rfl) (macSizeOf_any echo _) (fun w' h => bel_in B0 h) ?_
                intro W1 hW1
                have B1 := bel_in B0 hW1
                clear hW1 B0
                refine held_free 46 (.bool false) rfl (by kernel_rfl) (by kernel_rfl) (by kernel_rfl) (by kernel_rfl) B1 (fun _ _ => ex_inteqb .i64 3 3 (.tmp 45) (.tmp 48) (by kernel_rfl) ((mac.size : Int)) ((macOf echo : Int)) (by kernel_rfl) (by kernel_rfl) (by kernel_rfl) false (H_mc.out)) ?_
                refine held_free 47 (.bool false) rfl (by kernel_rfl) (by kernel_rfl) (by kernel_rfl) (by kernel_rfl) B1 (fun _ _ => by kernel_rfl) ?_
                refine held_free 48 (.bool false) rfl (by kernel_rfl) (by kernel_rfl) (by kernel_rfl) (by kernel_rfl) B1 (fun _ _ => by kernel_rfl) ?_
                refine held_end (by kernel_rfl) ?_
                go_wp2_with fail
                rw [HMM.out]
                exact ret_slot 2 (.bool false) (by kernel_rfl) (by kernel_rfl) (by kernel_rfl) ⟨rfl, by have q := HBV.out.trans (B1.mono HBV.out.size); first | exact q | (rw [HB0.out]; exact q)⟩
            · have H_i0 := Lib.hid (show decide (0 ≤ id) = true from decide_eq_true h_i0)
              have H_i1 := Lib.hid (show decide (id ≤ 255) = true from decide_eq_true h_i1)
              have H_s4 := Lib.hid (show decide ((ip.size : Int) = 4) = false from decide_eq_false h_s4)
              have H_s16 := Lib.hid (show decide ((ip.size : Int) = 16) = true from decide_eq_true h_s16)
              have H_p0 := Lib.hid (show decide (0 ≤ port) = true from decide_eq_true h_p0)
              have H_p1 := Lib.hid (show decide (port ≤ 65535) = false from decide_eq_false h_p1)
              have HX := Lib.hid hx0
              have HMM := Lib.hid (show M = false from hM.trans (decide_eq_false fun m => h_p1 m.2.2.1.2))
              have HB0 := Lib.hid hb0
              have HVE := Lib.hid hV
              clear hx0 hb0 hV hM h_i0 h_i1 h_s4 h_s16 h_p0 h_p1
              go_enter Try.func22, Try.ntmps22
              go_upto_region 1 with fail
              rw [← HVE.out, ← HB0.out]
              clear HVE
              have B0 : Below V.heap.size V V.drew := (Below.refl _ V).drew
              refine held_start (fun W => Below V.heap.size V W) (by kernel_rfl) (n := 49) rfl ?_
              obtain ⟨W0, hW0⟩ : ∃ W0, W0 = V.drew := ⟨_, rfl⟩
              rw [← hW0] at B0 ⊢
              clear hW0
              refine held_free 0 (.pointer (some ⟨b0, 1, none⟩)) rfl (by kernel_rfl) (by kernel_rfl) (by kernel_rfl) (by kernel_rfl) B0 (fun _ _ => ex_field (v := .pointer (some ⟨b0, 0, none⟩)) 23 (.tmp 1) 1 (by kernel_rfl) (by kernel_rfl) (by kernel_rfl)) ?_
              refine held_free 1 (.int .i64 id) rfl (by kernel_rfl) (by kernel_rfl) (by kernel_rfl) (by kernel_rfl) B0 (fun W b => ex_load 3 (.tmp 3) (by kernel_rfl) ⟨b0, 1, none⟩ (by kernel_rfl) (by kernel_rfl) ((HX.out.below b HX.out.lt).cell 1)) ?_
              refine held_free 2 (.bool true) rfl (by kernel_rfl) (by kernel_rfl) (by kernel_rfl) (by kernel_rfl) B0 (fun _ _ => ex_intleb .i64 3 3 (.const (.int .i64 0)) (.tmp 4) (by kernel_rfl) (0) (id) (by kernel_rfl) (by kernel_rfl) (by kernel_rfl) true (H_i0.out)) ?_
              refine held_free 3 (.bool true) rfl (by kernel_rfl) (by kernel_rfl) (by kernel_rfl) (by kernel_rfl) B0 (fun _ _ => by kernel_rfl) ?_
              refine held_free 4 (.pointer (some ⟨b0, 1, none⟩)) rfl (by kernel_rfl) (by kernel_rfl) (by kernel_rfl) (by kernel_rfl) B0 (fun _ _ => ex_field (v := .pointer (some ⟨b0, 0, none⟩)) 23 (.tmp 1) 1 (by kernel_rfl) (by kernel_rfl) (by kernel_rfl)) ?_
              refine held_free 5 (.int .i64 id) rfl (by kernel_rfl) (by kernel_rfl) (by kernel_rfl) (by kernel_rfl) B0 (fun W b => ex_load 3 (.tmp 7) (by kernel_rfl) ⟨b0, 1, none⟩ (by kernel_rfl) (by kernel_rfl) ((HX.out.below b HX.out.lt).cell 1)) ?_
              refine held_free 6 (.bool true) rfl (by kernel_rfl) (by kernel_rfl) (by kernel_rfl) (by kernel_rfl) B0 (fun _ _ => ex_intleb .i64 3 3 (.tmp 8) (.const (.int .i64 255)) (by kernel_rfl) (id) (255) (by kernel_rfl) (by kernel_rfl) (by kernel_rfl) true (H_i1.out)) ?_
              refine held_free 7 (.bool true) rfl (by kernel_rfl) (by kernel_rfl) (by kernel_rfl) (by kernel_rfl) B0 (fun _ _ => by kernel_rfl) ?_
              refine held_free 8 (.bool true) rfl (by kernel_rfl) (by kernel_rfl) (by kernel_rfl) (by kernel_rfl) B0 (fun _ _ => by kernel_rfl) ?_
              refine held_free 9 (.pointer (some ⟨b0, 2, none⟩)) rfl (by kernel_rfl) (by kernel_rfl) (by kernel_rfl) (by kernel_rfl) B0 (fun _ _ => ex_field (v := .pointer (some ⟨b0, 0, none⟩)) 23 (.tmp 1) 2 (by kernel_rfl) (by kernel_rfl) (by kernel_rfl)) ?_
              refine held_free 10 (.string ip) rfl (by kernel_rfl) (by kernel_rfl) (by kernel_rfl) (by kernel_rfl) B0 (fun W b => ex_load 9 (.tmp 12) (by kernel_rfl) ⟨b0, 2, none⟩ (by kernel_rfl) (by kernel_rfl) ((HX.out.below b HX.out.lt).cell 2)) ?_
              refine held_free 11 (.int .i64 (ip.size : Int)) rfl (by kernel_rfl) (by kernel_rfl) (by kernel_rfl) (by kernel_rfl) B0 (fun _ _ => by kernel_rfl) ?_
              refine held_free 12 (.bool false) rfl (by kernel_rfl) (by kernel_rfl) (by kernel_rfl) (by kernel_rfl) B0 (fun _ _ => ex_inteqb .i64 3 3 (.tmp 14) (.const (.int .i64 4)) (by kernel_rfl) ((ip.size : Int)) (4) (by kernel_rfl) (by kernel_rfl) (by kernel_rfl) false (H_s4.out)) ?_
              refine held_free 13 (.bool false) rfl (by kernel_rfl) (by kernel_rfl) (by kernel_rfl) (by kernel_rfl) B0 (fun _ _ => by kernel_rfl) ?_
              refine held_free 14 (.pointer (some ⟨b0, 2, none⟩)) rfl (by kernel_rfl) (by kernel_rfl) (by kernel_rfl) (by kernel_rfl) B0 (fun _ _ => ex_field (v := .pointer (some ⟨b0, 0, none⟩)) 23 (.tmp 1) 2 (by kernel_rfl) (by kernel_rfl) (by kernel_rfl)) ?_
              refine held_free 15 (.string ip) rfl (by kernel_rfl) (by kernel_rfl) (by kernel_rfl) (by kernel_rfl) B0 (fun W b => ex_load 9 (.tmp 17) (by kernel_rfl) ⟨b0, 2, none⟩ (by kernel_rfl) (by kernel_rfl) ((HX.out.below b HX.out.lt).cell 2)) ?_
              refine held_free 16 (.int .i64 (ip.size : Int)) rfl (by kernel_rfl) (by kernel_rfl) (by kernel_rfl) (by kernel_rfl) B0 (fun _ _ => by kernel_rfl) ?_
              refine held_free 17 (.bool true) rfl (by kernel_rfl) (by kernel_rfl) (by kernel_rfl) (by kernel_rfl) B0 (fun _ _ => ex_inteqb .i64 3 3 (.tmp 19) (.const (.int .i64 16)) (by kernel_rfl) ((ip.size : Int)) (16) (by kernel_rfl) (by kernel_rfl) (by kernel_rfl) true (H_s16.out)) ?_
              refine held_free 18 (.bool true) rfl (by kernel_rfl) (by kernel_rfl) (by kernel_rfl) (by kernel_rfl) B0 (fun _ _ => by kernel_rfl) ?_
              refine held_free 19 (.bool true) rfl (by kernel_rfl) (by kernel_rfl) (by kernel_rfl) (by kernel_rfl) B0 (fun _ _ => by kernel_rfl) ?_
              refine held_free 20 (.bool true) rfl (by kernel_rfl) (by kernel_rfl) (by kernel_rfl) (by kernel_rfl) B0 (fun _ _ => by kernel_rfl) ?_
              refine held_free 21 (.pointer (some ⟨b0, 4, none⟩)) rfl (by kernel_rfl) (by kernel_rfl) (by kernel_rfl) (by kernel_rfl) B0 (fun _ _ => ex_field (v := .pointer (some ⟨b0, 0, none⟩)) 23 (.tmp 1) 4 (by kernel_rfl) (by kernel_rfl) (by kernel_rfl)) ?_
              refine held_free 22 (.int .i64 port) rfl (by kernel_rfl) (by kernel_rfl) (by kernel_rfl) (by kernel_rfl) B0 (fun W b => ex_load 3 (.tmp 24) (by kernel_rfl) ⟨b0, 4, none⟩ (by kernel_rfl) (by kernel_rfl) ((HX.out.below b HX.out.lt).cell 4)) ?_
              refine held_free 23 (.bool true) rfl (by kernel_rfl) (by kernel_rfl) (by kernel_rfl) (by kernel_rfl) B0 (fun _ _ => ex_intleb .i64 3 3 (.const (.int .i64 0)) (.tmp 25) (by kernel_rfl) (0) (port) (by kernel_rfl) (by kernel_rfl) (by kernel_rfl) true (H_p0.out)) ?_
              refine held_free 24 (.bool true) rfl (by kernel_rfl) (by kernel_rfl) (by kernel_rfl) (by kernel_rfl) B0 (fun _ _ => by kernel_rfl) ?_
              refine held_free 25 (.bool true) rfl (by kernel_rfl) (by kernel_rfl) (by kernel_rfl) (by kernel_rfl) B0 (fun _ _ => by kernel_rfl) ?_
              refine held_free 26 (.pointer (some ⟨b0, 4, none⟩)) rfl (by kernel_rfl) (by kernel_rfl) (by kernel_rfl) (by kernel_rfl) B0 (fun _ _ => ex_field (v := .pointer (some ⟨b0, 0, none⟩)) 23 (.tmp 1) 4 (by kernel_rfl) (by kernel_rfl) (by kernel_rfl)) ?_
              refine held_free 27 (.int .i64 port) rfl (by kernel_rfl) (by kernel_rfl) (by kernel_rfl) (by kernel_rfl) B0 (fun W b => ex_load 3 (.tmp 29) (by kernel_rfl) ⟨b0, 4, none⟩ (by kernel_rfl) (by kernel_rfl) ((HX.out.below b HX.out.lt).cell 4)) ?_
              refine held_free 28 (.bool false) rfl (by kernel_rfl) (by kernel_rfl) (by kernel_rfl) (by kernel_rfl) B0 (fun _ _ => ex_intleb .i64 3 3 (.tmp 30) (.const (.int .i64 65535)) (by kernel_rfl) (port) (65535) (by kernel_rfl) (by kernel_rfl) (by kernel_rfl) false (H_p1.out)) ?_
              refine held_free 29 (.bool false) rfl (by kernel_rfl) (by kernel_rfl) (by kernel_rfl) (by kernel_rfl) B0 (fun _ _ => by kernel_rfl) ?_
              refine held_free 30 (.bool false) rfl (by kernel_rfl) (by kernel_rfl) (by kernel_rfl) (by kernel_rfl) B0 (fun _ _ => by kernel_rfl) ?_
              refine held_pass 31 rfl (by kernel_rfl) (by kernel_rfl) (by kernel_rfl) (by kernel_rfl) B0 ?_
              refine held_pass 32 rfl (by kernel_rfl) (by kernel_rfl) (by kernel_rfl) (by kernel_rfl) B0 ?_
              refine held_pass 33 rfl (by kernel_rfl) (by kernel_rfl) (by kernel_rfl) (by kernel_rfl) B0 ?_
              refine held_pass 34 rfl (by kernel_rfl) (by kernel_rfl) (by kernel_rfl) (by kernel_rfl) B0 ?_
              refine held_pass 35 rfl (by kernel_rfl) (by kernel_rfl) (by kernel_rfl) (by kernel_rfl) B0 ?_
              refine held_pass 36 rfl (by kernel_rfl) (by kernel_rfl) (by kernel_rfl) (by kernel_rfl) B0 ?_
              refine held_pass 37 rfl (by kernel_rfl) (by kernel_rfl) (by kernel_rfl) (by kernel_rfl) B0 ?_
              refine held_free 38 (.bool false) rfl (by kernel_rfl) (by kernel_rfl) (by kernel_rfl) (by kernel_rfl) B0 (fun _ _ => by kernel_rfl) ?_
              refine held_free 39 (.bool false) rfl (by kernel_rfl) (by kernel_rfl) (by kernel_rfl) (by kernel_rfl) B0 (fun _ _ => by kernel_rfl) ?_
              refine held_pass 40 rfl (by kernel_rfl) (by kernel_rfl) (by kernel_rfl) (by kernel_rfl) B0 ?_
              refine held_pass 41 rfl (by kernel_rfl) (by kernel_rfl) (by kernel_rfl) (by kernel_rfl) B0 ?_
              refine held_pass 42 rfl (by kernel_rfl) (by kernel_rfl) (by kernel_rfl) (by kernel_rfl) B0 ?_
              refine held_pass 43 rfl (by kernel_rfl) (by kernel_rfl) (by kernel_rfl) (by kernel_rfl) B0 ?_
              refine held_pass 44 rfl (by kernel_rfl) (by kernel_rfl) (by kernel_rfl) (by kernel_rfl) B0 ?_
              refine held_pass 45 rfl (by kernel_rfl) (by kernel_rfl) (by kernel_rfl) (by kernel_rfl) B0 ?_
              refine held_pass 46 rfl (by kernel_rfl) (by kernel_rfl) (by kernel_rfl) (by kernel_rfl) B0 ?_
              refine held_free 47 (.bool false) rfl (by kernel_rfl) (by kernel_rfl) (by kernel_rfl) (by kernel_rfl) B0 (fun _ _ => by kernel_rfl) ?_
              refine held_free 48 (.bool false) rfl (by kernel_rfl) (by kernel_rfl) (by kernel_rfl) (by kernel_rfl) B0 (fun _ _ => by kernel_rfl) ?_
              refine held_end (by kernel_rfl) ?_
              go_wp2_with fail
              rw [HMM.out]
              exact ret_slot 2 (.bool false) (by kernel_rfl) (by kernel_rfl) (by kernel_rfl) ⟨rfl, by have q := HBV.out.trans (B0.mono HBV.out.size); first | exact q | (rw [HB0.out]; exact q)⟩
          · have H_i0 := Lib.hid (show decide (0 ≤ id) = true from decide_eq_true h_i0)
            have H_i1 := Lib.hid (show decide (id ≤ 255) = true from decide_eq_true h_i1)
            have H_s4 := Lib.hid (show decide ((ip.size : Int) = 4) = false from decide_eq_false h_s4)
            have H_s16 := Lib.hid (show decide ((ip.size : Int) = 16) = true from decide_eq_true h_s16)
            have H_p0 := Lib.hid (show decide (0 ≤ port) = false from decide_eq_false h_p0)
            have HX := Lib.hid hx0
            have HMM := Lib.hid (show M = false from hM.trans (decide_eq_false fun m => h_p0 m.2.2.1.1))
            have HB0 := Lib.hid hb0
            have HVE := Lib.hid hV
            clear hx0 hb0 hV hM h_i0 h_i1 h_s4 h_s16 h_p0
            go_enter Try.func22, Try.ntmps22
            go_upto_region 1 with fail
            rw [← HVE.out, ← HB0.out]
            clear HVE
            have B0 : Below V.heap.size V V.drew := (Below.refl _ V).drew
            refine held_start (fun W => Below V.heap.size V W) (by kernel_rfl) (n := 49) rfl ?_
            obtain ⟨W0, hW0⟩ : ∃ W0, W0 = V.drew := ⟨_, rfl⟩
            rw [← hW0] at B0 ⊢
            clear hW0
            refine held_free 0 (.pointer (some ⟨b0, 1, none⟩)) rfl (by kernel_rfl) (by kernel_rfl) (by kernel_rfl) (by kernel_rfl) B0 (fun _ _ => ex_field (v := .pointer (some ⟨b0, 0, none⟩)) 23 (.tmp 1) 1 (by kernel_rfl) (by kernel_rfl) (by kernel_rfl)) ?_
            refine held_free 1 (.int .i64 id) rfl (by kernel_rfl) (by kernel_rfl) (by kernel_rfl) (by kernel_rfl) B0 (fun W b => ex_load 3 (.tmp 3) (by kernel_rfl) ⟨b0, 1, none⟩ (by kernel_rfl) (by kernel_rfl) ((HX.out.below b HX.out.lt).cell 1)) ?_
            refine held_free 2 (.bool true) rfl (by kernel_rfl) (by kernel_rfl) (by kernel_rfl) (by kernel_rfl) B0 (fun _ _ => ex_intleb .i64 3 3 (.const (.int .i64 0)) (.tmp 4) (by kernel_rfl) (0) (id) (by kernel_rfl) (by kernel_rfl) (by kernel_rfl) true (H_i0.out)) ?_
            refine held_free 3 (.bool true) rfl (by kernel_rfl) (by kernel_rfl) (by kernel_rfl) (by kernel_rfl) B0 (fun _ _ => by kernel_rfl) ?_
            refine held_free 4 (.pointer (some ⟨b0, 1, none⟩)) rfl (by kernel_rfl) (by kernel_rfl) (by kernel_rfl) (by kernel_rfl) B0 (fun _ _ => ex_field (v := .pointer (some ⟨b0, 0, none⟩)) 23 (.tmp 1) 1 (by kernel_rfl) (by kernel_rfl) (by kernel_rfl)) ?_
            refine held_free 5 (.int .i64 id) rfl (by kernel_rfl) (by kernel_rfl) (by kernel_rfl) (by kernel_rfl) B0 (fun W b => ex_load 3 (.tmp 7) (by kernel_rfl) ⟨b0, 1, none⟩ (by kernel_rfl) (by kernel_rfl) ((HX.out.below b HX.out.lt).cell 1)) ?_
            refine held_free 6 (.bool true) rfl (by kernel_rfl) (by kernel_rfl) (by kernel_rfl) (by kernel_rfl) B0 (fun _ _ => ex_intleb .i64 3 3 (.tmp 8) (.const (.int .i64 255)) (by kernel_rfl) (id) (255) (by kernel_rfl) (by kernel_rfl) (by kernel_rfl) true (H_i1.out)) ?_
            refine held_free 7 (.bool true) rfl (by kernel_rfl) (by kernel_rfl) (by kernel_rfl) (by kernel_rfl) B0 (fun _ _ => by kernel_rfl) ?_
            refine held_free 8 (.bool true) rfl (by kernel_rfl) (by kernel_rfl) (by kernel_rfl) (by kernel_rfl) B0 (fun _ _ => by kernel_rfl) ?_
            refine held_free 9 (.pointer (some ⟨b0, 2, none⟩)) rfl (by kernel_rfl) (by kernel_rfl) (by kernel_rfl) (by kernel_rfl) B0 (fun _ _ => ex_field (v := .pointer (some ⟨b0, 0, none⟩)) 23 (.tmp 1) 2 (by kernel_rfl) (by kernel_rfl) (by kernel_rfl)) ?_
            refine held_free 10 (.string ip) rfl (by kernel_rfl) (by kernel_rfl) (by kernel_rfl) (by kernel_rfl) B0 (fun W b => ex_load 9 (.tmp 12) (by kernel_rfl) ⟨b0, 2, none⟩ (by kernel_rfl) (by kernel_rfl) ((HX.out.below b HX.out.lt).cell 2)) ?_
            refine held_free 11 (.int .i64 (ip.size : Int)) rfl (by kernel_rfl) (by kernel_rfl) (by kernel_rfl) (by kernel_rfl) B0 (fun _ _ => by kernel_rfl) ?_
            refine held_free 12 (.bool false) rfl (by kernel_rfl) (by kernel_rfl) (by kernel_rfl) (by kernel_rfl) B0 (fun _ _ => ex_inteqb .i64 3 3 (.tmp 14) (.const (.int .i64 4)) (by kernel_rfl) ((ip.size : Int)) (4) (by kernel_rfl) (by kernel_rfl) (by kernel_rfl) false (H_s4.out)) ?_
            refine held_free 13 (.bool false) rfl (by kernel_rfl) (by kernel_rfl) (by kernel_rfl) (by kernel_rfl) B0 (fun _ _ => by kernel_rfl) ?_
            refine held_free 14 (.pointer (some ⟨b0, 2, none⟩)) rfl (by kernel_rfl) (by kernel_rfl) (by kernel_rfl) (by kernel_rfl) B0 (fun _ _ => ex_field (v := .pointer (some ⟨b0, 0, none⟩)) 23 (.tmp 1) 2 (by kernel_rfl) (by kernel_rfl) (by kernel_rfl)) ?_
            refine held_free 15 (.string ip) rfl (by kernel_rfl) (by kernel_rfl) (by kernel_rfl) (by kernel_rfl) B0 (fun W b => ex_load 9 (.tmp 17) (by kernel_rfl) ⟨b0, 2, none⟩ (by kernel_rfl) (by kernel_rfl) ((HX.out.below b HX.out.lt).cell 2)) ?_
            refine held_free 16 (.int .i64 (ip.size : Int)) rfl (by kernel_rfl) (by kernel_rfl) (by kernel_rfl) (by kernel_rfl) B0 (fun _ _ => by kernel_rfl) ?_
            refine held_free 17 (.bool true) rfl (by kernel_rfl) (by kernel_rfl) (by kernel_rfl) (by kernel_rfl) B0 (fun _ _ => ex_inteqb .i64 3 3 (.tmp 19) (.const (.int .i64 16)) (by kernel_rfl) ((ip.size : Int)) (16) (by kernel_rfl) (by kernel_rfl) (by kernel_rfl) true (H_s16.out)) ?_
            refine held_free 18 (.bool true) rfl (by kernel_rfl) (by kernel_rfl) (by kernel_rfl) (by kernel_rfl) B0 (fun _ _ => by kernel_rfl) ?_
            refine held_free 19 (.bool true) rfl (by kernel_rfl) (by kernel_rfl) (by kernel_rfl) (by kernel_rfl) B0 (fun _ _ => by kernel_rfl) ?_
            refine held_free 20 (.bool true) rfl (by kernel_rfl) (by kernel_rfl) (by kernel_rfl) (by kernel_rfl) B0 (fun _ _ => by kernel_rfl) ?_
            refine held_free 21 (.pointer (some ⟨b0, 4, none⟩)) rfl (by kernel_rfl) (by kernel_rfl) (by kernel_rfl) (by kernel_rfl) B0 (fun _ _ => ex_field (v := .pointer (some ⟨b0, 0, none⟩)) 23 (.tmp 1) 4 (by kernel_rfl) (by kernel_rfl) (by kernel_rfl)) ?_
            refine held_free 22 (.int .i64 port) rfl (by kernel_rfl) (by kernel_rfl) (by kernel_rfl) (by kernel_rfl) B0 (fun W b => ex_load 3 (.tmp 24) (by kernel_rfl) ⟨b0, 4, none⟩ (by kernel_rfl) (by kernel_rfl) ((HX.out.below b HX.out.lt).cell 4)) ?_
            refine held_free 23 (.bool false) rfl (by kernel_rfl) (by kernel_rfl) (by kernel_rfl) (by kernel_rfl) B0 (fun _ _ => ex_intleb .i64 3 3 (.const (.int .i64 0)) (.tmp 25) (by kernel_rfl) (0) (port) (by kernel_rfl) (by kernel_rfl) (by kernel_rfl) false (H_p0.out)) ?_
            refine held_free 24 (.bool false) rfl (by kernel_rfl) (by kernel_rfl) (by kernel_rfl) (by kernel_rfl) B0 (fun _ _ => by kernel_rfl) ?_
            refine held_free 25 (.bool false) rfl (by kernel_rfl) (by kernel_rfl) (by kernel_rfl) (by kernel_rfl) B0 (fun _ _ => by kernel_rfl) ?_
            refine held_pass 26 rfl (by kernel_rfl) (by kernel_rfl) (by kernel_rfl) (by kernel_rfl) B0 ?_
            refine held_pass 27 rfl (by kernel_rfl) (by kernel_rfl) (by kernel_rfl) (by kernel_rfl) B0 ?_
            refine held_pass 28 rfl (by kernel_rfl) (by kernel_rfl) (by kernel_rfl) (by kernel_rfl) B0 ?_
            refine held_free 29 (.bool false) rfl (by kernel_rfl) (by kernel_rfl) (by kernel_rfl) (by kernel_rfl) B0 (fun _ _ => by kernel_rfl) ?_
            refine held_free 30 (.bool false) rfl (by kernel_rfl) (by kernel_rfl) (by kernel_rfl) (by kernel_rfl) B0 (fun _ _ => by kernel_rfl) ?_
            refine held_pass 31 rfl (by kernel_rfl) (by kernel_rfl) (by kernel_rfl) (by kernel_rfl) B0 ?_
            refine held_pass 32 rfl (by kernel_rfl) (by kernel_rfl) (by kernel_rfl) (by kernel_rfl) B0 ?_
            refine held_pass 33 rfl (by kernel_rfl) (by kernel_rfl) (by kernel_rfl) (by kernel_rfl) B0 ?_
            refine held_pass 34 rfl (by kernel_rfl) (by kernel_rfl) (by kernel_rfl) (by kernel_rfl) B0 ?_
            refine held_pass 35 rfl (by kernel_rfl) (by kernel_rfl) (by kernel_rfl) (by kernel_rfl) B0 ?_
            refine held_pass 36 rfl (by kernel_rfl) (by kernel_rfl) (by kernel_rfl) (by kernel_rfl) B0 ?_
            refine held_pass 37 rfl (by kernel_rfl) (by kernel_rfl) (by kernel_rfl) (by kernel_rfl) B0 ?_
            refine held_free 38 (.bool false) rfl (by kernel_rfl) (by kernel_rfl) (by kernel_rfl) (by kernel_rfl) B0 (fun _ _ => by kernel_rfl) ?_
            refine held_free 39 (.bool false) rfl (by kernel_rfl) (by kernel_rfl) (by kernel_rfl) (by kernel_rfl) B0 (fun _ _ => by kernel_rfl) ?_
            refine held_pass 40 rfl (by kernel_rfl) (by kernel_rfl) (by kernel_rfl) (by kernel_rfl) B0 ?_
            refine held_pass 41 rfl (by kernel_rfl) (by kernel_rfl) (by kernel_rfl) (by kernel_rfl) B0 ?_
            refine held_pass 42 rfl (by kernel_rfl) (by kernel_rfl) (by kernel_rfl) (by kernel_rfl) B0 ?_
            refine held_pass 43 rfl (by kernel_rfl) (by kernel_rfl) (by kernel_rfl) (by kernel_rfl) B0 ?_
            refine held_pass 44 rfl (by kernel_rfl) (by kernel_rfl) (by kernel_rfl) (by kernel_rfl) B0 ?_
            refine held_pass 45 rfl (by kernel_rfl) (by kernel_rfl) (by kernel_rfl) (by kernel_rfl) B0 ?_
            refine held_pass 46 rfl (by kernel_rfl) (by kernel_rfl) (by kernel_rfl) (by kernel_rfl) B0 ?_
            refine held_free 47 (.bool false) rfl (by kernel_rfl) (by kernel_rfl) (by kernel_rfl) (by kernel_rfl) B0 (fun _ _ => by kernel_rfl) ?_
            refine held_free 48 (.bool false) rfl (by kernel_rfl) (by kernel_rfl) (by kernel_rfl) (by kernel_rfl) B0 (fun _ _ => by kernel_rfl) ?_
            refine held_end (by kernel_rfl) ?_
            go_wp2_with fail
            rw [HMM.out]
            exact ret_slot 2 (.bool false) (by kernel_rfl) (by kernel_rfl) (by kernel_rfl) ⟨rfl, by have q := HBV.out.trans (B0.mono HBV.out.size); first | exact q | (rw [HB0.out]; exact q)⟩
        · have H_i0 := Lib.hid (show decide (0 ≤ id) = true from decide_eq_true h_i0)
          have H_i1 := Lib.hid (show decide (id ≤ 255) = true from decide_eq_true h_i1)
          have H_s4 := Lib.hid (show decide ((ip.size : Int) = 4) = false from decide_eq_false h_s4)
          have H_s16 := Lib.hid (show decide ((ip.size : Int) = 16) = false from decide_eq_false h_s16)
          have HX := Lib.hid hx0
          have HMM := Lib.hid (show M = false from hM.trans (decide_eq_false fun m => by have q : ip.size = 4 ∨ ip.size = 16 := m.2.1; omega))
          have HB0 := Lib.hid hb0
          have HVE := Lib.hid hV
          clear hx0 hb0 hV hM h_i0 h_i1 h_s4 h_s16
          go_enter Try.func22, Try.ntmps22
          go_upto_region 1 with fail
          rw [← HVE.out, ← HB0.out]
          clear HVE
          have B0 : Below V.heap.size V V.drew := (Below.refl _ V).drew
          refine held_start (fun W => Below V.heap.size V W) (by kernel_rfl) (n := 49) rfl ?_
          obtain ⟨W0, hW0⟩ : ∃ W0, W0 = V.drew := ⟨_, rfl⟩
          rw [← hW0] at B0 ⊢
          clear hW0
          refine held_free 0 (.pointer (some ⟨b0, 1, none⟩)) rfl (by kernel_rfl) (by kernel_rfl) (by kernel_rfl) (by kernel_rfl) B0 (fun _ _ => ex_field (v := .pointer (some ⟨b0, 0, none⟩)) 23 (.tmp 1) 1 (by kernel_rfl) (by kernel_rfl) (by kernel_rfl)) ?_
          refine held_free 1 (.int .i64 id) rfl (by kernel_rfl) (by kernel_rfl) (by kernel_rfl) (by kernel_rfl) B0 (fun W b => ex_load 3 (.tmp 3) (by kernel_rfl) ⟨b0, 1, none⟩ (by kernel_rfl) (by kernel_rfl) ((HX.out.below b HX.out.lt).cell 1)) ?_
          refine held_free 2 (.bool true) rfl (by kernel_rfl) (by kernel_rfl) (by kernel_rfl) (by kernel_rfl) B0 (fun _ _ => ex_intleb .i64 3 3 (.const (.int .i64 0)) (.tmp 4) (by kernel_rfl) (0) (id) (by kernel_rfl) (by kernel_rfl) (by kernel_rfl) true (H_i0.out)) ?_
          refine held_free 3 (.bool true) rfl (by kernel_rfl) (by kernel_rfl) (by kernel_rfl) (by kernel_rfl) B0 (fun _ _ => by kernel_rfl) ?_
          refine held_free 4 (.pointer (some ⟨b0, 1, none⟩)) rfl (by kernel_rfl) (by kernel_rfl) (by kernel_rfl) (by kernel_rfl) B0 (fun _ _ => ex_field (v := .pointer (some ⟨b0, 0, none⟩)) 23 (.tmp 1) 1 (by kernel_rfl) (by kernel_rfl) (by kernel_rfl)) ?_
          refine held_free 5 (.int .i64 id) rfl (by kernel_rfl) (by kernel_rfl) (by kernel_rfl) (by kernel_rfl) B0 (fun W b => ex_load 3 (.tmp 7) (by kernel_rfl) ⟨b0, 1, none⟩ (by kernel_rfl) (by kernel_rfl) ((HX.out.below b HX.out.lt).cell 1)) ?_
          refine held_free 6 (.bool true) rfl (by kernel_rfl) (by kernel_rfl) (by kernel_rfl) (by kernel_rfl) B0 (fun _ _ => ex_intleb .i64 3 3 (.tmp 8) (.const (.int .i64 255)) (by kernel_rfl) (id) (255) (by kernel_rfl) (by kernel_rfl) (by kernel_rfl) true (H_i1.out)) ?_
          refine held_free 7 (.bool true) rfl (by kernel_rfl) (by kernel_rfl) (by kernel_rfl) (by kernel_rfl) B0 (fun _ _ => by kernel_rfl) ?_
          refine held_free 8 (.bool true) rfl (by kernel_rfl) (by kernel_rfl) (by kernel_rfl) (by kernel_rfl) B0 (fun _ _ => by kernel_rfl) ?_
          refine held_free 9 (.pointer (some ⟨b0, 2, none⟩)) rfl (by kernel_rfl) (by kernel_rfl) (by kernel_rfl) (by kernel_rfl) B0 (fun _ _ => ex_field (v := .pointer (some ⟨b0, 0, none⟩)) 23 (.tmp 1) 2 (by kernel_rfl) (by kernel_rfl) (by kernel_rfl)) ?_
          refine held_free 10 (.string ip) rfl (by kernel_rfl) (by kernel_rfl) (by kernel_rfl) (by kernel_rfl) B0 (fun W b => ex_load 9 (.tmp 12) (by kernel_rfl) ⟨b0, 2, none⟩ (by kernel_rfl) (by kernel_rfl) ((HX.out.below b HX.out.lt).cell 2)) ?_
          refine held_free 11 (.int .i64 (ip.size : Int)) rfl (by kernel_rfl) (by kernel_rfl) (by kernel_rfl) (by kernel_rfl) B0 (fun _ _ => by kernel_rfl) ?_
          refine held_free 12 (.bool false) rfl (by kernel_rfl) (by kernel_rfl) (by kernel_rfl) (by kernel_rfl) B0 (fun _ _ => ex_inteqb .i64 3 3 (.tmp 14) (.const (.int .i64 4)) (by kernel_rfl) ((ip.size : Int)) (4) (by kernel_rfl) (by kernel_rfl) (by kernel_rfl) false (H_s4.out)) ?_
          refine held_free 13 (.bool false) rfl (by kernel_rfl) (by kernel_rfl) (by kernel_rfl) (by kernel_rfl) B0 (fun _ _ => by kernel_rfl) ?_
          refine held_free 14 (.pointer (some ⟨b0, 2, none⟩)) rfl (by kernel_rfl) (by kernel_rfl) (by kernel_rfl) (by kernel_rfl) B0 (fun _ _ => ex_field (v := .pointer (some ⟨b0, 0, none⟩)) 23 (.tmp 1) 2 (by kernel_rfl) (by kernel_rfl) (by kernel_rfl)) ?_
          refine held_free 15 (.string ip) rfl (by kernel_rfl) (by kernel_rfl) (by kernel_rfl) (by kernel_rfl) B0 (fun W b => ex_load 9 (.tmp 17) (by kernel_rfl) ⟨b0, 2, none⟩ (by kernel_rfl) (by kernel_rfl) ((HX.out.below b HX.out.lt).cell 2)) ?_
          refine held_free 16 (.int .i64 (ip.size : Int)) rfl (by kernel_rfl) (by kernel_rfl) (by kernel_rfl) (by kernel_rfl) B0 (fun _ _ => by kernel_rfl) ?_
          refine held_free 17 (.bool false) rfl (by kernel_rfl) (by kernel_rfl) (by kernel_rfl) (by kernel_rfl) B0 (fun _ _ => ex_inteqb .i64 3 3 (.tmp 19) (.const (.int .i64 16)) (by kernel_rfl) ((ip.size : Int)) (16) (by kernel_rfl) (by kernel_rfl) (by kernel_rfl) false (H_s16.out)) ?_
          refine held_free 18 (.bool false) rfl (by kernel_rfl) (by kernel_rfl) (by kernel_rfl) (by kernel_rfl) B0 (fun _ _ => by kernel_rfl) ?_
          refine held_free 19 (.bool false) rfl (by kernel_rfl) (by kernel_rfl) (by kernel_rfl) (by kernel_rfl) B0 (fun _ _ => by kernel_rfl) ?_
          refine held_free 20 (.bool false) rfl (by kernel_rfl) (by kernel_rfl) (by kernel_rfl) (by kernel_rfl) B0 (fun _ _ => by kernel_rfl) ?_
          refine held_pass 21 rfl (by kernel_rfl) (by kernel_rfl) (by kernel_rfl) (by kernel_rfl) B0 ?_
          refine held_pass 22 rfl (by kernel_rfl) (by kernel_rfl) (by kernel_rfl) (by kernel_rfl) B0 ?_
          refine held_pass 23 rfl (by kernel_rfl) (by kernel_rfl) (by kernel_rfl) (by kernel_rfl) B0 ?_
          refine held_free 24 (.bool false) rfl (by kernel_rfl) (by kernel_rfl) (by kernel_rfl) (by kernel_rfl) B0 (fun _ _ => by kernel_rfl) ?_
          refine held_free 25 (.bool false) rfl (by kernel_rfl) (by kernel_rfl) (by kernel_rfl) (by kernel_rfl) B0 (fun _ _ => by kernel_rfl) ?_
          refine held_pass 26 rfl (by kernel_rfl) (by kernel_rfl) (by kernel_rfl) (by kernel_rfl) B0 ?_
          refine held_pass 27 rfl (by kernel_rfl) (by kernel_rfl) (by kernel_rfl) (by kernel_rfl) B0 ?_
          refine held_pass 28 rfl (by kernel_rfl) (by kernel_rfl) (by kernel_rfl) (by kernel_rfl) B0 ?_
          refine held_free 29 (.bool false) rfl (by kernel_rfl) (by kernel_rfl) (by kernel_rfl) (by kernel_rfl) B0 (fun _ _ => by kernel_rfl) ?_
          refine held_free 30 (.bool false) rfl (by kernel_rfl) (by kernel_rfl) (by kernel_rfl) (by kernel_rfl) B0 (fun _ _ => by kernel_rfl) ?_
          refine held_pass 31 rfl (by kernel_rfl) (by kernel_rfl) (by kernel_rfl) (by kernel_rfl) B0 ?_
          refine held_pass 32 rfl (by kernel_rfl) (by kernel_rfl) (by kernel_rfl) (by kernel_rfl) B0 ?_
          refine held_pass 33 rfl (by kernel_rfl) (by kernel_rfl) (by kernel_rfl) (by kernel_rfl) B0 ?_
          refine held_pass 34 rfl (by kernel_rfl) (by kernel_rfl) (by kernel_rfl) (by kernel_rfl) B0 ?_
          refine held_pass 35 rfl (by kernel_rfl) (by kernel_rfl) (by kernel_rfl) (by kernel_rfl) B0 ?_
          refine held_pass 36 rfl (by kernel_rfl) (by kernel_rfl) (by kernel_rfl) (by kernel_rfl) B0 ?_
          refine held_pass 37 rfl (by kernel_rfl) (by kernel_rfl) (by kernel_rfl) (by kernel_rfl) B0 ?_
          refine held_free 38 (.bool false) rfl (by kernel_rfl) (by kernel_rfl) (by kernel_rfl) (by kernel_rfl) B0 (fun _ _ => by kernel_rfl) ?_
          refine held_free 39 (.bool false) rfl (by kernel_rfl) (by kernel_rfl) (by kernel_rfl) (by kernel_rfl) B0 (fun _ _ => by kernel_rfl) ?_
          refine held_pass 40 rfl (by kernel_rfl) (by kernel_rfl) (by kernel_rfl) (by kernel_rfl) B0 ?_
          refine held_pass 41 rfl (by kernel_rfl) (by kernel_rfl) (by kernel_rfl) (by kernel_rfl) B0 ?_
          refine held_pass 42 rfl (by kernel_rfl) (by kernel_rfl) (by kernel_rfl) (by kernel_rfl) B0 ?_
          refine held_pass 43 rfl (by kernel_rfl) (by kernel_rfl) (by kernel_rfl) (by kernel_rfl) B0 ?_
          refine held_pass 44 rfl (by kernel_rfl) (by kernel_rfl) (by kernel_rfl) (by kernel_rfl) B0 ?_
          refine held_pass 45 rfl (by kernel_rfl) (by kernel_rfl) (by kernel_rfl) (by kernel_rfl) B0 ?_
          refine held_pass 46 rfl (by kernel_rfl) (by kernel_rfl) (by kernel_rfl) (by kernel_rfl) B0 ?_
          refine held_free 47 (.bool false) rfl (by kernel_rfl) (by kernel_rfl) (by kernel_rfl) (by kernel_rfl) B0 (fun _ _ => by kernel_rfl) ?_
          refine held_free 48 (.bool false) rfl (by kernel_rfl) (by kernel_rfl) (by kernel_rfl) (by kernel_rfl) B0 (fun _ _ => by kernel_rfl) ?_
          refine held_end (by kernel_rfl) ?_
          go_wp2_with fail
          rw [HMM.out]
          exact ret_slot 2 (.bool false) (by kernel_rfl) (by kernel_rfl) (by kernel_rfl) ⟨rfl, by have q := HBV.out.trans (B0.mono HBV.out.size); first | exact q | (rw [HB0.out]; exact q)⟩
    · have H_i0 := Lib.hid (show decide (0 ≤ id) = true from decide_eq_true h_i0)
      have H_i1 := Lib.hid (show decide (id ≤ 255) = false from decide_eq_false h_i1)
      have HX := Lib.hid hx0
      have HMM := Lib.hid (show M = false from hM.trans (decide_eq_false fun m => h_i1 m.1.2))
      have HB0 := Lib.hid hb0
      have HVE := Lib.hid hV
      clear hx0 hb0 hV hM h_i0 h_i1
      go_enter Try.func22, Try.ntmps22
      go_upto_region 1 with fail
      rw [← HVE.out, ← HB0.out]
      clear HVE
      have B0 : Below V.heap.size V V.drew := (Below.refl _ V).drew
      refine held_start (fun W => Below V.heap.size V W) (by kernel_rfl) (n := 49) rfl ?_
      obtain ⟨W0, hW0⟩ : ∃ W0, W0 = V.drew := ⟨_, rfl⟩
      rw [← hW0] at B0 ⊢
      clear hW0
      refine held_free 0 (.pointer (some ⟨b0, 1, none⟩)) rfl (by kernel_rfl) (by kernel_rfl) (by kernel_rfl) (by kernel_rfl) B0 (fun _ _ => ex_field (v := .pointer (some ⟨b0, 0, none⟩)) 23 (.tmp 1) 1 (by kernel_rfl) (by kernel_rfl) (by kernel_rfl)) ?_
      refine held_free 1 (.int .i64 id) rfl (by kernel_rfl) (by kernel_rfl) (by kernel_rfl) (by kernel_rfl) B0 (fun W b => ex_load 3 (.tmp 3) (by kernel_rfl) ⟨b0, 1, none⟩ (by kernel_rfl) (by kernel_rfl) ((HX.out.below b HX.out.lt).cell 1)) ?_
      refine held_free 2 (.bool true) rfl (by kernel_rfl) (by kernel_rfl) (by kernel_rfl) (by kernel_rfl) B0 (fun _ _ => ex_intleb .i64 3 3 (.const (.int .i64 0)) (.tmp 4) (by kernel_rfl) (0) (id) (by kernel_rfl) (by kernel_rfl) (by kernel_rfl) true (H_i0.out)) ?_
      refine held_free 3 (.bool true) rfl (by kernel_rfl) (by kernel_rfl) (by kernel_rfl) (by kernel_rfl) B0 (fun _ _ => by kernel_rfl) ?_
      refine held_free 4 (.pointer (some ⟨b0, 1, none⟩)) rfl (by kernel_rfl) (by kernel_rfl) (by kernel_rfl) (by kernel_rfl) B0 (fun _ _ => ex_field (v := .pointer (some ⟨b0, 0, none⟩)) 23 (.tmp 1) 1 (by kernel_rfl) (by kernel_rfl) (by kernel_rfl)) ?_
      refine held_free 5 (.int .i64 id) rfl (by kernel_rfl) (by kernel_rfl) (by kernel_rfl) (by kernel_rfl) B0 (fun W b => ex_load 3 (.tmp 7) (by kernel_rfl) ⟨b0, 1, none⟩ (by kernel_rfl) (by kernel_rfl) ((HX.out.below b HX.out.lt).cell 1)) ?_
      refine held_free 6 (.bool false) rfl (by kernel_rfl) (by kernel_rfl) (by kernel_rfl) (by kernel_rfl) B0 (fun _ _ => ex_intleb .i64 3 3 (.tmp 8) (.const (.int .i64 255)) (by kernel_rfl) (id) (255) (by kernel_rfl) (by kernel_rfl) (by kernel_rfl) false (H_i1.out)) ?_
      refine held_free 7 (.bool false) rfl (by kernel_rfl) (by kernel_rfl) (by kernel_rfl) (by kernel_rfl) B0 (fun _ _ => by kernel_rfl) ?_
      refine held_free 8 (.bool false) rfl (by kernel_rfl) (by kernel_rfl) (by kernel_rfl) (by kernel_rfl) B0 (fun _ _ => by kernel_rfl) ?_
      refine held_pass 9 rfl (by kernel_rfl) (by kernel_rfl) (by kernel_rfl) (by kernel_rfl) B0 ?_
      refine held_pass 10 rfl (by kernel_rfl) (by kernel_rfl) (by kernel_rfl) (by kernel_rfl) B0 ?_
      refine held_pass 11 rfl (by kernel_rfl) (by kernel_rfl) (by kernel_rfl) (by kernel_rfl) B0 ?_
      refine held_pass 12 rfl (by kernel_rfl) (by kernel_rfl) (by kernel_rfl) (by kernel_rfl) B0 ?_
      refine held_pass 13 rfl (by kernel_rfl) (by kernel_rfl) (by kernel_rfl) (by kernel_rfl) B0 ?_
      refine held_pass 14 rfl (by kernel_rfl) (by kernel_rfl) (by kernel_rfl) (by kernel_rfl) B0 ?_
      refine held_pass 15 rfl (by kernel_rfl) (by kernel_rfl) (by kernel_rfl) (by kernel_rfl) B0 ?_
      refine held_pass 16 rfl (by kernel_rfl) (by kernel_rfl) (by kernel_rfl) (by kernel_rfl) B0 ?_
      refine held_pass 17 rfl (by kernel_rfl) (by kernel_rfl) (by kernel_rfl) (by kernel_rfl) B0 ?_
      refine held_pass 18 rfl (by kernel_rfl) (by kernel_rfl) (by kernel_rfl) (by kernel_rfl) B0 ?_
      refine held_free 19 (.bool false) rfl (by kernel_rfl) (by kernel_rfl) (by kernel_rfl) (by kernel_rfl) B0 (fun _ _ => by kernel_rfl) ?_
      refine held_free 20 (.bool false) rfl (by kernel_rfl) (by kernel_rfl) (by kernel_rfl) (by kernel_rfl) B0 (fun _ _ => by kernel_rfl) ?_
      refine held_pass 21 rfl (by kernel_rfl) (by kernel_rfl) (by kernel_rfl) (by kernel_rfl) B0 ?_
      refine held_pass 22 rfl (by kernel_rfl) (by kernel_rfl) (by kernel_rfl) (by kernel_rfl) B0 ?_
      refine held_pass 23 rfl (by kernel_rfl) (by kernel_rfl) (by kernel_rfl) (by kernel_rfl) B0 ?_
      refine held_free 24 (.bool false) rfl (by kernel_rfl) (by kernel_rfl) (by kernel_rfl) (by kernel_rfl) B0 (fun _ _ => by kernel_rfl) ?_
      refine held_free 25 (.bool false) rfl (by kernel_rfl) (by kernel_rfl) (by kernel_rfl) (by kernel_rfl) B0 (fun _ _ => by kernel_rfl) ?_
      refine held_pass 26 rfl (by kernel_rfl) (by kernel_rfl) (by kernel_rfl) (by kernel_rfl) B0 ?_
      refine held_pass 27 rfl (by kernel_rfl) (by kernel_rfl) (by kernel_rfl) (by kernel_rfl) B0 ?_
      refine held_pass 28 rfl (by kernel_rfl) (by kernel_rfl) (by kernel_rfl) (by kernel_rfl) B0 ?_
      refine held_free 29 (.bool false) rfl (by kernel_rfl) (by kernel_rfl) (by kernel_rfl) (by kernel_rfl) B0 (fun _ _ => by kernel_rfl) ?_
      refine held_free 30 (.bool false) rfl (by kernel_rfl) (by kernel_rfl) (by kernel_rfl) (by kernel_rfl) B0 (fun _ _ => by kernel_rfl) ?_
      refine held_pass 31 rfl (by kernel_rfl) (by kernel_rfl) (by kernel_rfl) (by kernel_rfl) B0 ?_
      refine held_pass 32 rfl (by kernel_rfl) (by kernel_rfl) (by kernel_rfl) (by kernel_rfl) B0 ?_
      refine held_pass 33 rfl (by kernel_rfl) (by kernel_rfl) (by kernel_rfl) (by kernel_rfl) B0 ?_
      refine held_pass 34 rfl (by kernel_rfl) (by kernel_rfl) (by kernel_rfl) (by kernel_rfl) B0 ?_
      refine held_pass 35 rfl (by kernel_rfl) (by kernel_rfl) (by kernel_rfl) (by kernel_rfl) B0 ?_
      refine held_pass 36 rfl (by kernel_rfl) (by kernel_rfl) (by kernel_rfl) (by kernel_rfl) B0 ?_
      refine held_pass 37 rfl (by kernel_rfl) (by kernel_rfl) (by kernel_rfl) (by kernel_rfl) B0 ?_
      refine held_free 38 (.bool false) rfl (by kernel_rfl) (by kernel_rfl) (by kernel_rfl) (by kernel_rfl) B0 (fun _ _ => by kernel_rfl) ?_
      refine held_free 39 (.bool false) rfl (by kernel_rfl) (by kernel_rfl) (by kernel_rfl) (by kernel_rfl) B0 (fun _ _ => by kernel_rfl) ?_
      refine held_pass 40 rfl (by kernel_rfl) (by kernel_rfl) (by kernel_rfl) (by kernel_rfl) B0 ?_
      refine held_pass 41 rfl (by kernel_rfl) (by kernel_rfl) (by kernel_rfl) (by kernel_rfl) B0 ?_
      refine held_pass 42 rfl (by kernel_rfl) (by kernel_rfl) (by kernel_rfl) (by kernel_rfl) B0 ?_
      refine held_pass 43 rfl (by kernel_rfl) (by kernel_rfl) (by kernel_rfl) (by kernel_rfl) B0 ?_
      refine held_pass 44 rfl (by kernel_rfl) (by kernel_rfl) (by kernel_rfl) (by kernel_rfl) B0 ?_
      refine held_pass 45 rfl (by kernel_rfl) (by kernel_rfl) (by kernel_rfl) (by kernel_rfl) B0 ?_
      refine held_pass 46 rfl (by kernel_rfl) (by kernel_rfl) (by kernel_rfl) (by kernel_rfl) B0 ?_
      refine held_free 47 (.bool false) rfl (by kernel_rfl) (by kernel_rfl) (by kernel_rfl) (by kernel_rfl) B0 (fun _ _ => by kernel_rfl) ?_
      refine held_free 48 (.bool false) rfl (by kernel_rfl) (by kernel_rfl) (by kernel_rfl) (by kernel_rfl) B0 (fun _ _ => by kernel_rfl) ?_
      refine held_end (by kernel_rfl) ?_
      go_wp2_with fail
      rw [HMM.out]
      exact ret_slot 2 (.bool false) (by kernel_rfl) (by kernel_rfl) (by kernel_rfl) ⟨rfl, by have q := HBV.out.trans (B0.mono HBV.out.size); first | exact q | (rw [HB0.out]; exact q)⟩
  · have H_i0 := Lib.hid (show decide (0 ≤ id) = false from decide_eq_false h_i0)
    have HX := Lib.hid hx0
    have HMM := Lib.hid (show M = false from hM.trans (decide_eq_false fun m => h_i0 m.1.1))
    have HB0 := Lib.hid hb0
    have HVE := Lib.hid hV
    clear hx0 hb0 hV hM h_i0
    go_enter Try.func22, Try.ntmps22
    go_upto_region 1 with fail
    rw [← HVE.out, ← HB0.out]
    clear HVE
    have B0 : Below V.heap.size V V.drew := (Below.refl _ V).drew
    refine held_start (fun W => Below V.heap.size V W) (by kernel_rfl) (n := 49) rfl ?_
    obtain ⟨W0, hW0⟩ : ∃ W0, W0 = V.drew := ⟨_, rfl⟩
    rw [← hW0] at B0 ⊢
    clear hW0
    refine held_free 0 (.pointer (some ⟨b0, 1, none⟩)) rfl (by kernel_rfl) (by kernel_rfl) (by kernel_rfl) (by kernel_rfl) B0 (fun _ _ => ex_field (v := .pointer (some ⟨b0, 0, none⟩)) 23 (.tmp 1) 1 (by kernel_rfl) (by kernel_rfl) (by kernel_rfl)) ?_
    refine held_free 1 (.int .i64 id) rfl (by kernel_rfl) (by kernel_rfl) (by kernel_rfl) (by kernel_rfl) B0 (fun W b => ex_load 3 (.tmp 3) (by kernel_rfl) ⟨b0, 1, none⟩ (by kernel_rfl) (by kernel_rfl) ((HX.out.below b HX.out.lt).cell 1)) ?_
    refine held_free 2 (.bool false) rfl (by kernel_rfl) (by kernel_rfl) (by kernel_rfl) (by kernel_rfl) B0 (fun _ _ => ex_intleb .i64 3 3 (.const (.int .i64 0)) (.tmp 4) (by kernel_rfl) (0) (id) (by kernel_rfl) (by kernel_rfl) (by kernel_rfl) false (H_i0.out)) ?_
    refine held_free 3 (.bool false) rfl (by kernel_rfl) (by kernel_rfl) (by kernel_rfl) (by kernel_rfl) B0 (fun _ _ => by kernel_rfl) ?_
    refine held_pass 4 rfl (by kernel_rfl) (by kernel_rfl) (by kernel_rfl) (by kernel_rfl) B0 ?_
    refine held_pass 5 rfl (by kernel_rfl) (by kernel_rfl) (by kernel_rfl) (by kernel_rfl) B0 ?_
    refine held_pass 6 rfl (by kernel_rfl) (by kernel_rfl) (by kernel_rfl) (by kernel_rfl) B0 ?_
    refine held_free 7 (.bool false) rfl (by kernel_rfl) (by kernel_rfl) (by kernel_rfl) (by kernel_rfl) B0 (fun _ _ => by kernel_rfl) ?_
    refine held_free 8 (.bool false) rfl (by kernel_rfl) (by kernel_rfl) (by kernel_rfl) (by kernel_rfl) B0 (fun _ _ => by kernel_rfl) ?_
    refine held_pass 9 rfl (by kernel_rfl) (by kernel_rfl) (by kernel_rfl) (by kernel_rfl) B0 ?_
    refine held_pass 10 rfl (by kernel_rfl) (by kernel_rfl) (by kernel_rfl) (by kernel_rfl) B0 ?_
    refine held_pass 11 rfl (by kernel_rfl) (by kernel_rfl) (by kernel_rfl) (by kernel_rfl) B0 ?_
    refine held_pass 12 rfl (by kernel_rfl) (by kernel_rfl) (by kernel_rfl) (by kernel_rfl) B0 ?_
    refine held_pass 13 rfl (by kernel_rfl) (by kernel_rfl) (by kernel_rfl) (by kernel_rfl) B0 ?_
    refine held_pass 14 rfl (by kernel_rfl) (by kernel_rfl) (by kernel_rfl) (by kernel_rfl) B0 ?_
    refine held_pass 15 rfl (by kernel_rfl) (by kernel_rfl) (by kernel_rfl) (by kernel_rfl) B0 ?_
    refine held_pass 16 rfl (by kernel_rfl) (by kernel_rfl) (by kernel_rfl) (by kernel_rfl) B0 ?_
    refine held_pass 17 rfl (by kernel_rfl) (by kernel_rfl) (by kernel_rfl) (by kernel_rfl) B0 ?_
    refine held_pass 18 rfl (by kernel_rfl) (by kernel_rfl) (by kernel_rfl) (by kernel_rfl) B0 ?_
    refine held_free 19 (.bool false) rfl (by kernel_rfl) (by kernel_rfl) (by kernel_rfl) (by kernel_rfl) B0 (fun _ _ => by kernel_rfl) ?_
    refine held_free 20 (.bool false) rfl (by kernel_rfl) (by kernel_rfl) (by kernel_rfl) (by kernel_rfl) B0 (fun _ _ => by kernel_rfl) ?_
    refine held_pass 21 rfl (by kernel_rfl) (by kernel_rfl) (by kernel_rfl) (by kernel_rfl) B0 ?_
    refine held_pass 22 rfl (by kernel_rfl) (by kernel_rfl) (by kernel_rfl) (by kernel_rfl) B0 ?_
    refine held_pass 23 rfl (by kernel_rfl) (by kernel_rfl) (by kernel_rfl) (by kernel_rfl) B0 ?_
    refine held_free 24 (.bool false) rfl (by kernel_rfl) (by kernel_rfl) (by kernel_rfl) (by kernel_rfl) B0 (fun _ _ => by kernel_rfl) ?_
    refine held_free 25 (.bool false) rfl (by kernel_rfl) (by kernel_rfl) (by kernel_rfl) (by kernel_rfl) B0 (fun _ _ => by kernel_rfl) ?_
    refine held_pass 26 rfl (by kernel_rfl) (by kernel_rfl) (by kernel_rfl) (by kernel_rfl) B0 ?_
    refine held_pass 27 rfl (by kernel_rfl) (by kernel_rfl) (by kernel_rfl) (by kernel_rfl) B0 ?_
    refine held_pass 28 rfl (by kernel_rfl) (by kernel_rfl) (by kernel_rfl) (by kernel_rfl) B0 ?_
    refine held_free 29 (.bool false) rfl (by kernel_rfl) (by kernel_rfl) (by kernel_rfl) (by kernel_rfl) B0 (fun _ _ => by kernel_rfl) ?_
    refine held_free 30 (.bool false) rfl (by kernel_rfl) (by kernel_rfl) (by kernel_rfl) (by kernel_rfl) B0 (fun _ _ => by kernel_rfl) ?_
    refine held_pass 31 rfl (by kernel_rfl) (by kernel_rfl) (by kernel_rfl) (by kernel_rfl) B0 ?_
    refine held_pass 32 rfl (by kernel_rfl) (by kernel_rfl) (by kernel_rfl) (by kernel_rfl) B0 ?_
    refine held_pass 33 rfl (by kernel_rfl) (by kernel_rfl) (by kernel_rfl) (by kernel_rfl) B0 ?_
    refine held_pass 34 rfl (by kernel_rfl) (by kernel_rfl) (by kernel_rfl) (by kernel_rfl) B0 ?_
    refine held_pass 35 rfl (by kernel_rfl) (by kernel_rfl) (by kernel_rfl) (by kernel_rfl) B0 ?_
    refine held_pass 36 rfl (by kernel_rfl) (by kernel_rfl) (by kernel_rfl) (by kernel_rfl) B0 ?_
    refine held_pass 37 rfl (by kernel_rfl) (by kernel_rfl) (by kernel_rfl) (by kernel_rfl) B0 ?_
    refine held_free 38 (.bool false) rfl (by kernel_rfl) (by kernel_rfl) (by kernel_rfl) (by kernel_rfl) B0 (fun _ _ => by kernel_rfl) ?_
    refine held_free 39 (.bool false) rfl (by kernel_rfl) (by kernel_rfl) (by kernel_rfl) (by kernel_rfl) B0 (fun _ _ => by kernel_rfl) ?_
    refine held_pass 40 rfl (by kernel_rfl) (by kernel_rfl) (by kernel_rfl) (by kernel_rfl) B0 ?_
    refine held_pass 41 rfl (by kernel_rfl) (by kernel_rfl) (by kernel_rfl) (by kernel_rfl) B0 ?_
    refine held_pass 42 rfl (by kernel_rfl) (by kernel_rfl) (by kernel_rfl) (by kernel_rfl) B0 ?_
    refine held_pass 43 rfl (by kernel_rfl) (by kernel_rfl) (by kernel_rfl) (by kernel_rfl) B0 ?_
    refine held_pass 44 rfl (by kernel_rfl) (by kernel_rfl) (by kernel_rfl) (by kernel_rfl) B0 ?_
    refine held_pass 45 rfl (by kernel_rfl) (by kernel_rfl) (by kernel_rfl) (by kernel_rfl) B0 ?_
    refine held_pass 46 rfl (by kernel_rfl) (by kernel_rfl) (by kernel_rfl) (by kernel_rfl) B0 ?_
    refine held_free 47 (.bool false) rfl (by kernel_rfl) (by kernel_rfl) (by kernel_rfl) (by kernel_rfl) B0 (fun _ _ => by kernel_rfl) ?_
    refine held_free 48 (.bool false) rfl (by kernel_rfl) (by kernel_rfl) (by kernel_rfl) (by kernel_rfl) B0 (fun _ _ => by kernel_rfl) ?_
    refine held_end (by kernel_rfl) ?_
    go_wp2_with fail
    rw [HMM.out]
    exact ret_slot 2 (.bool false) (by kernel_rfl) (by kernel_rfl) (by kernel_rfl) ⟨rfl, by have q := HBV.out.trans (B0.mono HBV.out.size); first | exact q | (rw [HB0.out]; exact q)⟩
set_option maxHeartbeats 2000000 in
set_option maxRecDepth 100000 in
theorem valid_false (echo : Bool) (id : Int) (ip : ByteArray) (port : Int) (mac : ByteArray) (w : World) :
    Calls Try.prog 22 #[.agg (adv ⟨echo, id, ip, false, port, mac⟩)] w fun e w' => e = .returned (.bool (decide (Ad.May ⟨echo, id, ip, false, port, mac⟩))) ∧ Below w.heap.size w w' := by
  obtain ⟨V, hV⟩ : ∃ V, V = w.alloc (.cells (adv ⟨echo, id, ip, false, port, mac⟩) 23) := ⟨_, rfl⟩
  obtain ⟨b0, hb0⟩ : ∃ b0, b0 = w.heap.size := ⟨_, rfl⟩
  obtain ⟨M, hM⟩ : ∃ M, M = decide (Ad.May ⟨echo, id, ip, false, port, mac⟩) := ⟨_, rfl⟩
  rw [← hM]
  have HBV := Lib.hid (show Below w.heap.size w V by rw [hV]; exact (Below.refl _ w).alloc (Nat.le_refl _) _)
  have hx0 : Blk V b0 23 (adv ⟨echo, id, ip, false, port, mac⟩) := by rw [hV, hb0]; exact Blk.new _ _ _
  by_cases h_i0 : 0 ≤ id
  · by_cases h_i1 : id ≤ 255
    · by_cases h_s4 : (ip.size : Int) = 4
      · by_cases h_p0 : 0 ≤ port
        · by_cases h_p1 : port ≤ 65535
          · by_cases h_pz : port = 0
            · by_cases h_mc : (mac.size : Int) = (macOf echo : Int)
              · have H_i0 := Lib.hid (show decide (0 ≤ id) = true from decide_eq_true h_i0)
                have H_i1 := Lib.hid (show decide (id ≤ 255) = true from decide_eq_true h_i1)
                have H_s4 := Lib.hid (show decide ((ip.size : Int) = 4) = true from decide_eq_true h_s4)
                have H_p0 := Lib.hid (show decide (0 ≤ port) = true from decide_eq_true h_p0)
                have H_p1 := Lib.hid (show decide (port ≤ 65535) = true from decide_eq_true h_p1)
                have H_pz := Lib.hid (show decide (port = 0) = true from decide_eq_true h_pz)
                have H_mc := Lib.hid (show decide ((mac.size : Int) = (macOf echo : Int)) = true from decide_eq_true h_mc)
                have HX := Lib.hid hx0
                have HMM := Lib.hid (show M = true from hM.trans (decide_eq_true ⟨⟨h_i0, h_i1⟩, .inl (show ip.size = 4 by omega), ⟨h_p0, h_p1⟩, .inr h_pz, by show mac.size = macOf echo; omega⟩))
                have HB0 := Lib.hid hb0
                have HVE := Lib.hid hV
                clear hx0 hb0 hV hM h_i0 h_i1 h_s4 h_p0 h_p1 h_pz h_mc
                go_enter Try.func22, Try.ntmps22
                go_upto_region 1 with fail
                rw [← HVE.out, ← HB0.out]
                clear HVE
                have B0 : Below V.heap.size V V.drew := (Below.refl _ V).drew
                refine held_start (fun W => Below V.heap.size V W) (by kernel_rfl) (n := 49) rfl ?_
                obtain ⟨W0, hW0⟩ : ∃ W0, W0 = V.drew := ⟨_, rfl⟩
                rw [← hW0] at B0 ⊢
                clear hW0
                refine held_free 0 (.pointer (some ⟨b0, 1, none⟩)) rfl (by kernel_rfl) (by kernel_rfl) (by kernel_rfl) (by kernel_rfl) B0 (fun _ _ => ex_field (v := .pointer (some ⟨b0, 0, none⟩)) 23 (.tmp 1) 1 (by kernel_rfl) (by kernel_rfl) (by kernel_rfl)) ?_
                refine held_free 1 (.int .i64 id) rfl (by kernel_rfl) (by kernel_rfl) (by kernel_rfl) (by kernel_rfl) B0 (fun W b => ex_load 3 (.tmp 3) (by kernel_rfl) ⟨b0, 1, none⟩ (by kernel_rfl) (by kernel_rfl) ((HX.out.below b HX.out.lt).cell 1)) ?_
                refine held_free 2 (.bool true) rfl (by kernel_rfl) (by kernel_rfl) (by kernel_rfl) (by kernel_rfl) B0 (fun _ _ => ex_intleb .i64 3 3 (.const (.int .i64 0)) (.tmp 4) (by kernel_rfl) (0) (id) (by kernel_rfl) (by kernel_rfl) (by kernel_rfl) true (H_i0.out)) ?_
                refine held_free 3 (.bool true) rfl (by kernel_rfl) (by kernel_rfl) (by kernel_rfl) (by kernel_rfl) B0 (fun _ _ => by kernel_rfl) ?_
                refine held_free 4 (.pointer (some ⟨b0, 1, none⟩)) rfl (by kernel_rfl) (by kernel_rfl) (by kernel_rfl) (by kernel_rfl) B0 (fun _ _ => ex_field (v := .pointer (some ⟨b0, 0, none⟩)) 23 (.tmp 1) 1 (by kernel_rfl) (by kernel_rfl) (by kernel_rfl)) ?_
                refine held_free 5 (.int .i64 id) rfl (by kernel_rfl) (by kernel_rfl) (by kernel_rfl) (by kernel_rfl) B0 (fun W b => ex_load 3 (.tmp 7) (by kernel_rfl) ⟨b0, 1, none⟩ (by kernel_rfl) (by kernel_rfl) ((HX.out.below b HX.out.lt).cell 1)) ?_
                refine held_free 6 (.bool true) rfl (by kernel_rfl) (by kernel_rfl) (by kernel_rfl) (by kernel_rfl) B0 (fun _ _ => ex_intleb .i64 3 3 (.tmp 8) (.const (.int .i64 255)) (by kernel_rfl) (id) (255) (by kernel_rfl) (by kernel_rfl) (by kernel_rfl) true (H_i1.out)) ?_
                refine held_free 7 (.bool true) rfl (by kernel_rfl) (by kernel_rfl) (by kernel_rfl) (by kernel_rfl) B0 (fun _ _ => by kernel_rfl) ?_
                refine held_free 8 (.bool true) rfl (by kernel_rfl) (by kernel_rfl) (by kernel_rfl) (by kernel_rfl) B0 (fun _ _ => by kernel_rfl) ?_
                refine held_free 9 (.pointer (some ⟨b0, 2, none⟩)) rfl (by kernel_rfl) (by kernel_rfl) (by kernel_rfl) (by kernel_rfl) B0 (fun _ _ => ex_field (v := .pointer (some ⟨b0, 0, none⟩)) 23 (.tmp 1) 2 (by kernel_rfl) (by kernel_rfl) (by kernel_rfl)) ?_
                refine held_free 10 (.string ip) rfl (by kernel_rfl) (by kernel_rfl) (by kernel_rfl) (by kernel_rfl) B0 (fun W b => ex_load 9 (.tmp 12) (by kernel_rfl) ⟨b0, 2, none⟩ (by kernel_rfl) (by kernel_rfl) ((HX.out.below b HX.out.lt).cell 2)) ?_
                refine held_free 11 (.int .i64 (ip.size : Int)) rfl (by kernel_rfl) (by kernel_rfl) (by kernel_rfl) (by kernel_rfl) B0 (fun _ _ => by kernel_rfl) ?_
                refine held_free 12 (.bool true) rfl (by kernel_rfl) (by kernel_rfl) (by kernel_rfl) (by kernel_rfl) B0 (fun _ _ => ex_inteqb .i64 3 3 (.tmp 14) (.const (.int .i64 4)) (by kernel_rfl) ((ip.size : Int)) (4) (by kernel_rfl) (by kernel_rfl) (by kernel_rfl) true (H_s4.out)) ?_
                refine held_free 13 (.bool true) rfl (by kernel_rfl) (by kernel_rfl) (by kernel_rfl) (by kernel_rfl) B0 (fun _ _ => by kernel_rfl) ?_
                refine held_pass 14 rfl (by kernel_rfl) (by kernel_rfl) (by kernel_rfl) (by kernel_rfl) B0 ?_
                refine held_pass 15 rfl (by kernel_rfl) (by kernel_rfl) (by kernel_rfl) (by kernel_rfl) B0 ?_
                refine held_pass 16 rfl (by kernel_rfl) (by kernel_rfl) (by kernel_rfl) (by kernel_rfl) B0 ?_
                refine held_pass 17 rfl (by kernel_rfl) (by kernel_rfl) (by kernel_rfl) (by kernel_rfl) B0 ?_
                refine held_free 18 (.bool true) rfl (by kernel_rfl) (by kernel_rfl) (by kernel_rfl) (by kernel_rfl) B0 (fun _ _ => by kernel_rfl) ?_
                refine held_free 19 (.bool true) rfl (by kernel_rfl) (by kernel_rfl) (by kernel_rfl) (by kernel_rfl) B0 (fun _ _ => by kernel_rfl) ?_
                refine held_free 20 (.bool true) rfl (by kernel_rfl) (by kernel_rfl) (by kernel_rfl) (by kernel_rfl) B0 (fun _ _ => by kernel_rfl) ?_
                refine held_free 21 (.pointer (some ⟨b0, 4, none⟩)) rfl (by kernel_rfl) (by kernel_rfl) (by kernel_rfl) (by kernel_rfl) B0 (fun _ _ => ex_field (v := .pointer (some ⟨b0, 0, none⟩)) 23 (.tmp 1) 4 (by kernel_rfl) (by kernel_rfl) (by kernel_rfl)) ?_
                refine held_free 22 (.int .i64 port) rfl (by kernel_rfl) (by kernel_rfl) (by kernel_rfl) (by kernel_rfl) B0 (fun W b => ex_load 3 (.tmp 24) (by kernel_rfl) ⟨b0, 4, none⟩ (by kernel_rfl) (by kernel_rfl) ((HX.out.below b HX.out.lt).cell 4)) ?_
                refine held_free 23 (.bool true) rfl (by kernel_rfl) (by kernel_rfl) (by kernel_rfl) (by kernel_rfl) B0 (fun _ _ => ex_intleb .i64 3 3 (.const (.int .i64 0)) (.tmp 25) (by kernel_rfl) (0) (port) (by kernel_rfl) (by kernel_rfl) (by kernel_rfl) true (H_p0.out)) ?_
                refine held_free 24 (.bool true) rfl (by kernel_rfl) (by kernel_rfl) (by kernel_rfl) (by kernel_rfl) B0 (fun _ _ => by kernel_rfl) ?_
                refine held_free 25 (.bool true) rfl (by kernel_rfl) (by kernel_rfl) (by kernel_rfl) (by kernel_rfl) B0 (fun _ _ => by kernel_rfl) ?_
                refine held_free 26 (.pointer (some ⟨b0, 4, none⟩)) rfl (by kernel_rfl) (by kernel_rfl) (by kernel_rfl) (by kernel_rfl) B0 (fun _ _ => ex_field (v := .pointer (some ⟨b0, 0, none⟩)) 23 (.tmp 1) 4 (by kernel_rfl) (by kernel_rfl) (by kernel_rfl)) ?_
                refine held_free 27 (.int .i64 port) rfl (by kernel_rfl) (by kernel_rfl) (by kernel_rfl) (by kernel_rfl) B0 (fun W b => ex_load 3 (.tmp 29) (by kernel_rfl) ⟨b0, 4, none⟩ (by kernel_rfl) (by kernel_rfl) ((HX.out.below b HX.out.lt).cell 4)) ?_
                refine held_free 28 (.bool true) rfl (by kernel_rfl) (by kernel_rfl) (by kernel_rfl) (by kernel_rfl) B0 (fun _ _ => ex_intleb .i64 3 3 (.tmp 30) (.const (.int .i64 65535)) (by kernel_rfl) (port) (65535) (by kernel_rfl) (by kernel_rfl) (by kernel_rfl) true (H_p1.out)) ?_
                refine held_free 29 (.bool true) rfl (by kernel_rfl) (by kernel_rfl) (by kernel_rfl) (by kernel_rfl) B0 (fun _ _ => by kernel_rfl) ?_
                refine held_free 30 (.bool true) rfl (by kernel_rfl) (by kernel_rfl) (by kernel_rfl) (by kernel_rfl) B0 (fun _ _ => by kernel_rfl) ?_
                refine held_free 31 (.pointer (some ⟨b0, 3, none⟩)) rfl (by kernel_rfl) (by kernel_rfl) (by kernel_rfl) (by kernel_rfl) B0 (fun _ _ => ex_field (v := .pointer (some ⟨b0, 0, none⟩)) 23 (.tmp 1) 3 (by kernel_rfl) (by kernel_rfl) (by kernel_rfl)) ?_
                refine held_free 32 (.bool false) rfl (by kernel_rfl) (by kernel_rfl) (by kernel_rfl) (by kernel_rfl) B0 (fun W b => ex_load 4 (.tmp 34) (by kernel_rfl) ⟨b0, 3, none⟩ (by kernel_rfl) (by kernel_rfl) ((HX.out.below b HX.out.lt).cell 3)) ?_
                refine held_free 33 (.bool false) rfl (by kernel_rfl) (by kernel_rfl) (by kernel_rfl) (by kernel_rfl) B0 (fun _ _ => by kernel_rfl) ?_
                refine held_free 34 (.pointer (some ⟨b0, 4, none⟩)) rfl (by kernel_rfl) (by kernel_rfl) (by kernel_rfl) (by kernel_rfl) B0 (fun _ _ => ex_field (v := .pointer (some ⟨b0, 0, none⟩)) 23 (.tmp 1) 4 (by kernel_rfl) (by kernel_rfl) (by kernel_rfl)) ?_
                refine held_free 35 (.int .i64 port) rfl (by kernel_rfl) (by kernel_rfl) (by kernel_rfl) (by kernel_rfl) B0 (fun W b => ex_load 3 (.tmp 37) (by kernel_rfl) ⟨b0, 4, none⟩ (by kernel_rfl) (by kernel_rfl) ((HX.out.below b HX.out.lt).cell 4)) ?_
                refine held_free 36 (.bool true) rfl (by kernel_rfl) (by kernel_rfl) (by kernel_rfl) (by kernel_rfl) B0 (fun _ _ => ex_inteqb .i64 3 3 (.tmp 38) (.const (.int .i64 0)) (by kernel_rfl) (port) (0) (by kernel_rfl) (by kernel_rfl) (by kernel_rfl) true (H_pz.out)) ?_
                refine held_free 37 (.bool true) rfl (by kernel_rfl) (by kernel_rfl) (by kernel_rfl) (by kernel_rfl) B0 (fun _ _ => by kernel_rfl) ?_
                refine held_free 38 (.bool true) rfl (by kernel_rfl) (by kernel_rfl) (by kernel_rfl) (by kernel_rfl) B0 (fun _ _ => by kernel_rfl) ?_
                refine held_free 39 (.bool true) rfl (by kernel_rfl) (by kernel_rfl) (by kernel_rfl) (by kernel_rfl) B0 (fun _ _ => by kernel_rfl) ?_
                refine held_free 40 (.pointer (some ⟨b0, 5, none⟩)) rfl (by kernel_rfl) (by kernel_rfl) (by kernel_rfl) (by kernel_rfl) B0 (fun _ _ => ex_field (v := .pointer (some ⟨b0, 0, none⟩)) 23 (.tmp 1) 5 (by kernel_rfl) (by kernel_rfl) (by kernel_rfl)) ?_
                refine held_free 41 (.string mac) rfl (by kernel_rfl) (by kernel_rfl) (by kernel_rfl) (by kernel_rfl) B0 (fun W b => ex_load 9 (.tmp 43) (by kernel_rfl) ⟨b0, 5, none⟩ (by kernel_rfl) (by kernel_rfl) ((HX.out.below b HX.out.lt).cell 5)) ?_
                refine held_free 42 (.int .i64 (mac.size : Int)) rfl (by kernel_rfl) (by kernel_rfl) (by kernel_rfl) (by kernel_rfl) B0 (fun _ _ => by kernel_rfl) ?_
                refine held_free 43 (.pointer (some ⟨b0, 0, none⟩)) rfl (by kernel_rfl) (by kernel_rfl) (by kernel_rfl) (by kernel_rfl) B0 (fun _ _ => ex_field (v := .pointer (some ⟨b0, 0, none⟩)) 23 (.tmp 1) 0 (by kernel_rfl) (by kernel_rfl) (by kernel_rfl)) ?_
                refine held_free 44 (.bool echo) rfl (by kernel_rfl) (by kernel_rfl) (by kernel_rfl) (by kernel_rfl) B0 (fun W b => ex_load 4 (.tmp 46) (by kernel_rfl) ⟨b0, 0, none⟩ (by kernel_rfl) (by kernel_rfl) ((HX.out.below b HX.out.lt).cell 0)) ?_
                refine held_call 45 rfl (by kernel_rfl) (by kernel_rfl) (by kernel_rfl) (macSizeOf_any echo _) (fun w' h => bel_in B0 h) ?_
                intro W1 hW1
                have B1 := bel_in B0 hW1
                clear hW1 B0
                refine held_free 46 (.bool true) rfl (by kernel_rfl) (by kernel_rfl) (by kernel_rfl) (by kernel_rfl) B1 (fun _ _ => ex_inteqb .i64 3 3 (.tmp 45) (.tmp 48) (by kernel_rfl) ((mac.size : Int)) ((macOf echo : Int)) (by kernel_rfl) (by kernel_rfl) (by kernel_rfl) true (H_mc.out)) ?_
                refine held_free 47 (.bool true) rfl (by kernel_rfl) (by kernel_rfl) (by kernel_rfl) (by kernel_rfl) B1 (fun _ _ => by kernel_rfl) ?_
                refine held_free 48 (.bool true) rfl (by kernel_rfl) (by kernel_rfl) (by kernel_rfl) (by kernel_rfl) B1 (fun _ _ => by kernel_rfl) ?_
                refine held_end (by kernel_rfl) ?_
                go_wp2_with fail
                rw [HMM.out]
                exact ret_slot 2 (.bool true) (by kernel_rfl) (by kernel_rfl) (by kernel_rfl) ⟨rfl, by have q := HBV.out.trans (B1.mono HBV.out.size); first | exact q | (rw [HB0.out]; exact q)⟩
              · have H_i0 := Lib.hid (show decide (0 ≤ id) = true from decide_eq_true h_i0)
                have H_i1 := Lib.hid (show decide (id ≤ 255) = true from decide_eq_true h_i1)
                have H_s4 := Lib.hid (show decide ((ip.size : Int) = 4) = true from decide_eq_true h_s4)
                have H_p0 := Lib.hid (show decide (0 ≤ port) = true from decide_eq_true h_p0)
                have H_p1 := Lib.hid (show decide (port ≤ 65535) = true from decide_eq_true h_p1)
                have H_pz := Lib.hid (show decide (port = 0) = true from decide_eq_true h_pz)
                have H_mc := Lib.hid (show decide ((mac.size : Int) = (macOf echo : Int)) = false from decide_eq_false h_mc)
                have HX := Lib.hid hx0
                have HMM := Lib.hid (show M = false from hM.trans (decide_eq_false fun m => h_mc (by have q : mac.size = macOf echo := m.2.2.2.2; omega)))
                have HB0 := Lib.hid hb0
                have HVE := Lib.hid hV
                clear hx0 hb0 hV hM h_i0 h_i1 h_s4 h_p0 h_p1 h_pz h_mc
                go_enter Try.func22, Try.ntmps22
                go_upto_region 1 with fail
                rw [← HVE.out, ← HB0.out]
                clear HVE
                have B0 : Below V.heap.size V V.drew := (Below.refl _ V).drew
                refine held_start (fun W => Below V.heap.size V W) (by kernel_rfl) (n := 49) rfl ?_
                obtain ⟨W0, hW0⟩ : ∃ W0, W0 = V.drew := ⟨_, rfl⟩
                rw [← hW0] at B0 ⊢
                clear hW0
                refine held_free 0 (.pointer (some ⟨b0, 1, none⟩)) rfl (by kernel_rfl) (by kernel_rfl) (by kernel_rfl) (by kernel_rfl) B0 (fun _ _ => ex_field (v := .pointer (some ⟨b0, 0, none⟩)) 23 (.tmp 1) 1 (by kernel_rfl) (by kernel_rfl) (by kernel_rfl)) ?_
                refine held_free 1 (.int .i64 id) rfl (by kernel_rfl) (by kernel_rfl) (by kernel_rfl) (by kernel_rfl) B0 (fun W b => ex_load 3 (.tmp 3) (by kernel_rfl) ⟨b0, 1, none⟩ (by kernel_rfl) (by kernel_rfl) ((HX.out.below b HX.out.lt).cell 1)) ?_
                refine held_free 2 (.bool true) rfl (by kernel_rfl) (by kernel_rfl) (by kernel_rfl) (by kernel_rfl) B0 (fun _ _ => ex_intleb .i64 3 3 (.const (.int .i64 0)) (.tmp 4) (by kernel_rfl) (0) (id) (by kernel_rfl) (by kernel_rfl) (by kernel_rfl) true (H_i0.out)) ?_
                refine held_free 3 (.bool true) rfl (by kernel_rfl) (by kernel_rfl) (by kernel_rfl) (by kernel_rfl) B0 (fun _ _ => by kernel_rfl) ?_
                refine held_free 4 (.pointer (some ⟨b0, 1, none⟩)) rfl (by kernel_rfl) (by kernel_rfl) (by kernel_rfl) (by kernel_rfl) B0 (fun _ _ => ex_field (v := .pointer (some ⟨b0, 0, none⟩)) 23 (.tmp 1) 1 (by kernel_rfl) (by kernel_rfl) (by kernel_rfl)) ?_
                refine held_free 5 (.int .i64 id) rfl (by kernel_rfl) (by kernel_rfl) (by kernel_rfl) (by kernel_rfl) B0 (fun W b => ex_load 3 (.tmp 7) (by kernel_rfl) ⟨b0, 1, none⟩ (by kernel_rfl) (by kernel_rfl) ((HX.out.below b HX.out.lt).cell 1)) ?_
                refine held_free 6 (.bool true) rfl (by kernel_rfl) (by kernel_rfl) (by kernel_rfl) (by kernel_rfl) B0 (fun _ _ => ex_intleb .i64 3 3 (.tmp 8) (.const (.int .i64 255)) (by kernel_rfl) (id) (255) (by kernel_rfl) (by kernel_rfl) (by kernel_rfl) true (H_i1.out)) ?_
                refine held_free 7 (.bool true) rfl (by kernel_rfl) (by kernel_rfl) (by kernel_rfl) (by kernel_rfl) B0 (fun _ _ => by kernel_rfl) ?_
                refine held_free 8 (.bool true) rfl (by kernel_rfl) (by kernel_rfl) (by kernel_rfl) (by kernel_rfl) B0 (fun _ _ => by kernel_rfl) ?_
                refine held_free 9 (.pointer (some ⟨b0, 2, none⟩)) rfl (by kernel_rfl) (by kernel_rfl) (by kernel_rfl) (by kernel_rfl) B0 (fun _ _ => ex_field (v := .pointer (some ⟨b0, 0, none⟩)) 23 (.tmp 1) 2 (by kernel_rfl) (by kernel_rfl) (by kernel_rfl)) ?_
                refine held_free 10 (.string ip) rfl (by kernel_rfl) (by kernel_rfl) (by kernel_rfl) (by kernel_rfl) B0 (fun W b => ex_load 9 (.tmp 12) (by kernel_rfl) ⟨b0, 2, none⟩ (by kernel_rfl) (by kernel_rfl) ((HX.out.below b HX.out.lt).cell 2)) ?_
                refine held_free 11 (.int .i64 (ip.size : Int)) rfl (by kernel_rfl) (by kernel_rfl) (by kernel_rfl) (by kernel_rfl) B0 (fun _ _ => by kernel_rfl) ?_
                refine held_free 12 (.bool true) rfl (by kernel_rfl) (by kernel_rfl) (by kernel_rfl) (by kernel_rfl) B0 (fun _ _ => ex_inteqb .i64 3 3 (.tmp 14) (.const (.int .i64 4)) (by kernel_rfl) ((ip.size : Int)) (4) (by kernel_rfl) (by kernel_rfl) (by kernel_rfl) true (H_s4.out)) ?_
                refine held_free 13 (.bool true) rfl (by kernel_rfl) (by kernel_rfl) (by kernel_rfl) (by kernel_rfl) B0 (fun _ _ => by kernel_rfl) ?_
                refine held_pass 14 rfl (by kernel_rfl) (by kernel_rfl) (by kernel_rfl) (by kernel_rfl) B0 ?_
                refine held_pass 15 rfl (by kernel_rfl) (by kernel_rfl) (by kernel_rfl) (by kernel_rfl) B0 ?_
                refine held_pass 16 rfl (by kernel_rfl) (by kernel_rfl) (by kernel_rfl) (by kernel_rfl) B0 ?_
                refine held_pass 17 rfl (by kernel_rfl) (by kernel_rfl) (by kernel_rfl) (by kernel_rfl) B0 ?_
                refine held_free 18 (.bool true) rfl (by kernel_rfl) (by kernel_rfl) (by kernel_rfl) (by kernel_rfl) B0 (fun _ _ => by kernel_rfl) ?_
                refine held_free 19 (.bool true) rfl (by kernel_rfl) (by kernel_rfl) (by kernel_rfl) (by kernel_rfl) B0 (fun _ _ => by kernel_rfl) ?_
                refine held_free 20 (.bool true) rfl (by kernel_rfl) (by kernel_rfl) (by kernel_rfl) (by kernel_rfl) B0 (fun _ _ => by kernel_rfl) ?_
                refine held_free 21 (.pointer (some ⟨b0, 4, none⟩)) rfl (by kernel_rfl) (by kernel_rfl) (by kernel_rfl) (by kernel_rfl) B0 (fun _ _ => ex_field (v := .pointer (some ⟨b0, 0, none⟩)) 23 (.tmp 1) 4 (by kernel_rfl) (by kernel_rfl) (by kernel_rfl)) ?_
                refine held_free 22 (.int .i64 port) rfl (by kernel_rfl) (by kernel_rfl) (by kernel_rfl) (by kernel_rfl) B0 (fun W b => ex_load 3 (.tmp 24) (by kernel_rfl) ⟨b0, 4, none⟩ (by kernel_rfl) (by kernel_rfl) ((HX.out.below b HX.out.lt).cell 4)) ?_
                refine held_free 23 (.bool true) rfl (by kernel_rfl) (by kernel_rfl) (by kernel_rfl) (by kernel_rfl) B0 (fun _ _ => ex_intleb .i64 3 3 (.const (.int .i64 0)) (.tmp 25) (by kernel_rfl) (0) (port) (by kernel_rfl) (by kernel_rfl) (by kernel_rfl) true (H_p0.out)) ?_
                refine held_free 24 (.bool true) rfl (by kernel_rfl) (by kernel_rfl) (by kernel_rfl) (by kernel_rfl) B0 (fun _ _ => by kernel_rfl) ?_
                refine held_free 25 (.bool true) rfl (by kernel_rfl) (by kernel_rfl) (by kernel_rfl) (by kernel_rfl) B0 (fun _ _ => by kernel_rfl) ?_
                refine held_free 26 (.pointer (some ⟨b0, 4, none⟩)) rfl (by kernel_rfl) (by kernel_rfl) (by kernel_rfl) (by kernel_rfl) B0 (fun _ _ => ex_field (v := .pointer (some ⟨b0, 0, none⟩)) 23 (.tmp 1) 4 (by kernel_rfl) (by kernel_rfl) (by kernel_rfl)) ?_
                refine held_free 27 (.int .i64 port) rfl (by kernel_rfl) (by kernel_rfl) (by kernel_rfl) (by kernel_rfl) B0 (fun W b => ex_load 3 (.tmp 29) (by kernel_rfl) ⟨b0, 4, none⟩ (by kernel_rfl) (by kernel_rfl) ((HX.out.below b HX.out.lt).cell 4)) ?_
                refine held_free 28 (.bool true) rfl (by kernel_rfl) (by kernel_rfl) (by kernel_rfl) (by kernel_rfl) B0 (fun _ _ => ex_intleb .i64 3 3 (.tmp 30) (.const (.int .i64 65535)) (by kernel_rfl) (port) (65535) (by kernel_rfl) (by kernel_rfl) (by kernel_rfl) true (H_p1.out)) ?_
                refine held_free 29 (.bool true) rfl (by kernel_rfl) (by kernel_rfl) (by kernel_rfl) (by kernel_rfl) B0 (fun _ _ => by kernel_rfl) ?_
                refine held_free 30 (.bool true) rfl (by kernel_rfl) (by kernel_rfl) (by kernel_rfl) (by kernel_rfl) B0 (fun _ _ => by kernel_rfl) ?_
                refine held_free 31 (.pointer (some ⟨b0, 3, none⟩)) rfl (by kernel_rfl) (by kernel_rfl) (by kernel_rfl) (by kernel_rfl) B0 (fun _ _ => ex_field (v := .pointer (some ⟨b0, 0, none⟩)) 23 (.tmp 1) 3 (by kernel_rfl) (by kernel_rfl) (by kernel_rfl)) ?_
                refine held_free 32 (.bool false) rfl (by kernel_rfl) (by kernel_rfl) (by kernel_rfl) (by kernel_rfl) B0 (fun W b => ex_load 4 (.tmp 34) (by kernel_rfl) ⟨b0, 3, none⟩ (by kernel_rfl) (by kernel_rfl) ((HX.out.below b HX.out.lt).cell 3)) ?_
                refine held_free 33 (.bool false) rfl (by kernel_rfl) (by kernel_rfl) (by kernel_rfl) (by kernel_rfl) B0 (fun _ _ => by kernel_rfl) ?_
                refine held_free 34 (.pointer (some ⟨b0, 4, none⟩)) rfl (by kernel_rfl) (by kernel_rfl) (by kernel_rfl) (by kernel_rfl) B0 (fun _ _ => ex_field (v := .pointer (some ⟨b0, 0, none⟩)) 23 (.tmp 1) 4 (by kernel_rfl) (by kernel_rfl) (by kernel_rfl)) ?_
                refine held_free 35 (.int .i64 port) rfl (by kernel_rfl) (by kernel_rfl) (by kernel_rfl) (by kernel_rfl) B0 (fun W b => ex_load 3 (.tmp 37) (by kernel_rfl) ⟨b0, 4, none⟩ (by kernel_rfl) (by kernel_rfl) ((HX.out.below b HX.out.lt).cell 4)) ?_
                refine held_free 36 (.bool true) rfl (by kernel_rfl) (by kernel_rfl) (by kernel_rfl) (by kernel_rfl) B0 (fun _ _ => ex_inteqb .i64 3 3 (.tmp 38) (.const (.int .i64 0)) (by kernel_rfl) (port) (0) (by kernel_rfl) (by kernel_rfl) (by kernel_rfl) true (H_pz.out)) ?_
                refine held_free 37 (.bool true) rfl (by kernel_rfl) (by kernel_rfl) (by kernel_rfl) (by kernel_rfl) B0 (fun _ _ => by kernel_rfl) ?_
                refine held_free 38 (.bool true) rfl (by kernel_rfl) (by kernel_rfl) (by kernel_rfl) (by kernel_rfl) B0 (fun _ _ => by kernel_rfl) ?_
                refine held_free 39 (.bool true) rfl (by kernel_rfl) (by kernel_rfl) (by kernel_rfl) (by kernel_rfl) B0 (fun _ _ => by kernel_rfl) ?_
                refine held_free 40 (.pointer (some ⟨b0, 5, none⟩)) rfl (by kernel_rfl) (by kernel_rfl) (by kernel_rfl) (by kernel_rfl) B0 (fun _ _ => ex_field (v := .pointer (some ⟨b0, 0, none⟩)) 23 (.tmp 1) 5 (by kernel_rfl) (by kernel_rfl) (by kernel_rfl)) ?_
                refine held_free 41 (.string mac) rfl (by kernel_rfl) (by kernel_rfl) (by kernel_rfl) (by kernel_rfl) B0 (fun W b => ex_load 9 (.tmp 43) (by kernel_rfl) ⟨b0, 5, none⟩ (by kernel_rfl) (by kernel_rfl) ((HX.out.below b HX.out.lt).cell 5)) ?_
                refine held_free 42 (.int .i64 (mac.size : Int)) rfl (by kernel_rfl) (by kernel_rfl) (by kernel_rfl) (by kernel_rfl) B0 (fun _ _ => by kernel_rfl) ?_
                refine held_free 43 (.pointer (some ⟨b0, 0, none⟩)) rfl (by kernel_rfl) (by kernel_rfl) (by kernel_rfl) (by kernel_rfl) B0 (fun _ _ => ex_field (v := .pointer (some ⟨b0, 0, none⟩)) 23 (.tmp 1) 0 (by kernel_rfl) (by kernel_rfl) (by kernel_rfl)) ?_
                refine held_free 44 (.bool echo) rfl (by kernel_rfl) (by kernel_rfl) (by kernel_rfl) (by kernel_rfl) B0 (fun W b => ex_load 4 (.tmp 46) (by kernel_rfl) ⟨b0, 0, none⟩ (by kernel_rfl) (by kernel_rfl) ((HX.out.below b HX.out.lt).cell 0)) ?_
                refine held_call 45 rfl (by kernel_rfl) (by kernel_rfl) (by kernel_rfl) (macSizeOf_any echo _) (fun w' h => bel_in B0 h) ?_
                intro W1 hW1
                have B1 := bel_in B0 hW1
                clear hW1 B0
                refine held_free 46 (.bool false) rfl (by kernel_rfl) (by kernel_rfl) (by kernel_rfl) (by kernel_rfl) B1 (fun _ _ => ex_inteqb .i64 3 3 (.tmp 45) (.tmp 48) (by kernel_rfl) ((mac.size : Int)) ((macOf echo : Int)) (by kernel_rfl) (by kernel_rfl) (by kernel_rfl) false (H_mc.out)) ?_
                refine held_free 47 (.bool false) rfl (by kernel_rfl) (by kernel_rfl) (by kernel_rfl) (by kernel_rfl) B1 (fun _ _ => by kernel_rfl) ?_
                refine held_free 48 (.bool false) rfl (by kernel_rfl) (by kernel_rfl) (by kernel_rfl) (by kernel_rfl) B1 (fun _ _ => by kernel_rfl) ?_
                refine held_end (by kernel_rfl) ?_
                go_wp2_with fail
                rw [HMM.out]
                exact ret_slot 2 (.bool false) (by kernel_rfl) (by kernel_rfl) (by kernel_rfl) ⟨rfl, by have q := HBV.out.trans (B1.mono HBV.out.size); first | exact q | (rw [HB0.out]; exact q)⟩
            · have H_i0 := Lib.hid (show decide (0 ≤ id) = true from decide_eq_true h_i0)
              have H_i1 := Lib.hid (show decide (id ≤ 255) = true from decide_eq_true h_i1)
              have H_s4 := Lib.hid (show decide ((ip.size : Int) = 4) = true from decide_eq_true h_s4)
              have H_p0 := Lib.hid (show decide (0 ≤ port) = true from decide_eq_true h_p0)
              have H_p1 := Lib.hid (show decide (port ≤ 65535) = true from decide_eq_true h_p1)
              have H_pz := Lib.hid (show decide (port = 0) = false from decide_eq_false h_pz)
              have HX := Lib.hid hx0
              have HMM := Lib.hid (show M = false from hM.trans (decide_eq_false fun m => by have q : (false = true) ∨ port = 0 := m.2.2.2.1; rcases q with q | q; cases q; exact h_pz q))
              have HB0 := Lib.hid hb0
              have HVE := Lib.hid hV
              clear hx0 hb0 hV hM h_i0 h_i1 h_s4 h_p0 h_p1 h_pz
              go_enter Try.func22, Try.ntmps22
              go_upto_region 1 with fail
              rw [← HVE.out, ← HB0.out]
              clear HVE
              have B0 : Below V.heap.size V V.drew := (Below.refl _ V).drew
              refine held_start (fun W => Below V.heap.size V W) (by kernel_rfl) (n := 49) rfl ?_
              obtain ⟨W0, hW0⟩ : ∃ W0, W0 = V.drew := ⟨_, rfl⟩
              rw [← hW0] at B0 ⊢
              clear hW0
              refine held_free 0 (.pointer (some ⟨b0, 1, none⟩)) rfl (by kernel_rfl) (by kernel_rfl) (by kernel_rfl) (by kernel_rfl) B0 (fun _ _ => ex_field (v := .pointer (some ⟨b0, 0, none⟩)) 23 (.tmp 1) 1 (by kernel_rfl) (by kernel_rfl) (by kernel_rfl)) ?_
              refine held_free 1 (.int .i64 id) rfl (by kernel_rfl) (by kernel_rfl) (by kernel_rfl) (by kernel_rfl) B0 (fun W b => ex_load 3 (.tmp 3) (by kernel_rfl) ⟨b0, 1, none⟩ (by kernel_rfl) (by kernel_rfl) ((HX.out.below b HX.out.lt).cell 1)) ?_
              refine held_free 2 (.bool true) rfl (by kernel_rfl) (by kernel_rfl) (by kernel_rfl) (by kernel_rfl) B0 (fun _ _ => ex_intleb .i64 3 3 (.const (.int .i64 0)) (.tmp 4) (by kernel_rfl) (0) (id) (by kernel_rfl) (by kernel_rfl) (by kernel_rfl) true (H_i0.out)) ?_
              refine held_free 3 (.bool true) rfl (by kernel_rfl) (by kernel_rfl) (by kernel_rfl) (by kernel_rfl) B0 (fun _ _ => by kernel_rfl) ?_
              refine held_free 4 (.pointer (some ⟨b0, 1, none⟩)) rfl (by kernel_rfl) (by kernel_rfl) (by kernel_rfl) (by kernel_rfl) B0 (fun _ _ => ex_field (v := .pointer (some ⟨b0, 0, none⟩)) 23 (.tmp 1) 1 (by kernel_rfl) (by kernel_rfl) (by kernel_rfl)) ?_
              refine held_free 5 (.int .i64 id) rfl (by kernel_rfl) (by kernel_rfl) (by kernel_rfl) (by kernel_rfl) B0 (fun W b => ex_load 3 (.tmp 7) (by kernel_rfl) ⟨b0, 1, none⟩ (by kernel_rfl) (by kernel_rfl) ((HX.out.below b HX.out.lt).cell 1)) ?_
              refine held_free 6 (.bool true) rfl (by kernel_rfl) (by kernel_rfl) (by kernel_rfl) (by kernel_rfl) B0 (fun _ _ => ex_intleb .i64 3 3 (.tmp 8) (.const (.int .i64 255)) (by kernel_rfl) (id) (255) (by kernel_rfl) (by kernel_rfl) (by kernel_rfl) true (H_i1.out)) ?_
              refine held_free 7 (.bool true) rfl (by kernel_rfl) (by kernel_rfl) (by kernel_rfl) (by kernel_rfl) B0 (fun _ _ => by kernel_rfl) ?_
              refine held_free 8 (.bool true) rfl (by kernel_rfl) (by kernel_rfl) (by kernel_rfl) (by kernel_rfl) B0 (fun _ _ => by kernel_rfl) ?_
              refine held_free 9 (.pointer (some ⟨b0, 2, none⟩)) rfl (by kernel_rfl) (by kernel_rfl) (by kernel_rfl) (by kernel_rfl) B0 (fun _ _ => ex_field (v := .pointer (some ⟨b0, 0, none⟩)) 23 (.tmp 1) 2 (by kernel_rfl) (by kernel_rfl) (by kernel_rfl)) ?_
              refine held_free 10 (.string ip) rfl (by kernel_rfl) (by kernel_rfl) (by kernel_rfl) (by kernel_rfl) B0 (fun W b => ex_load 9 (.tmp 12) (by kernel_rfl) ⟨b0, 2, none⟩ (by kernel_rfl) (by kernel_rfl) ((HX.out.below b HX.out.lt).cell 2)) ?_
              refine held_free 11 (.int .i64 (ip.size : Int)) rfl (by kernel_rfl) (by kernel_rfl) (by kernel_rfl) (by kernel_rfl) B0 (fun _ _ => by kernel_rfl) ?_
              refine held_free 12 (.bool true) rfl (by kernel_rfl) (by kernel_rfl) (by kernel_rfl) (by kernel_rfl) B0 (fun _ _ => ex_inteqb .i64 3 3 (.tmp 14) (.const (.int .i64 4)) (by kernel_rfl) ((ip.size : Int)) (4) (by kernel_rfl) (by kernel_rfl) (by kernel_rfl) true (H_s4.out)) ?_
              refine held_free 13 (.bool true) rfl (by kernel_rfl) (by kernel_rfl) (by kernel_rfl) (by kernel_rfl) B0 (fun _ _ => by kernel_rfl) ?_
              refine held_pass 14 rfl (by kernel_rfl) (by kernel_rfl) (by kernel_rfl) (by kernel_rfl) B0 ?_
              refine held_pass 15 rfl (by kernel_rfl) (by kernel_rfl) (by kernel_rfl) (by kernel_rfl) B0 ?_
              refine held_pass 16 rfl (by kernel_rfl) (by kernel_rfl) (by kernel_rfl) (by kernel_rfl) B0 ?_
              refine held_pass 17 rfl (by kernel_rfl) (by kernel_rfl) (by kernel_rfl) (by kernel_rfl) B0 ?_
              refine held_free 18 (.bool true) rfl (by kernel_rfl) (by kernel_rfl) (by kernel_rfl) (by kernel_rfl) B0 (fun _ _ => by kernel_rfl) ?_
              refine held_free 19 (.bool true) rfl (by kernel_rfl) (by kernel_rfl) (by kernel_rfl) (by kernel_rfl) B0 (fun _ _ => by kernel_rfl) ?_
              refine held_free 20 (.bool true) rfl (by kernel_rfl) (by kernel_rfl) (by kernel_rfl) (by kernel_rfl) B0 (fun _ _ => by kernel_rfl) ?_
              refine held_free 21 (.pointer (some ⟨b0, 4, none⟩)) rfl (by kernel_rfl) (by kernel_rfl) (by kernel_rfl) (by kernel_rfl) B0 (fun _ _ => ex_field (v := .pointer (some ⟨b0, 0, none⟩)) 23 (.tmp 1) 4 (by kernel_rfl) (by kernel_rfl) (by kernel_rfl)) ?_
              refine held_free 22 (.int .i64 port) rfl (by kernel_rfl) (by kernel_rfl) (by kernel_rfl) (by kernel_rfl) B0 (fun W b => ex_load 3 (.tmp 24) (by kernel_rfl) ⟨b0, 4, none⟩ (by kernel_rfl) (by kernel_rfl) ((HX.out.below b HX.out.lt).cell 4)) ?_
              refine held_free 23 (.bool true) rfl (by kernel_rfl) (by kernel_rfl) (by kernel_rfl) (by kernel_rfl) B0 (fun _ _ => ex_intleb .i64 3 3 (.const (.int .i64 0)) (.tmp 25) (by kernel_rfl) (0) (port) (by kernel_rfl) (by kernel_rfl) (by kernel_rfl) true (H_p0.out)) ?_
              refine held_free 24 (.bool true) rfl (by kernel_rfl) (by kernel_rfl) (by kernel_rfl) (by kernel_rfl) B0 (fun _ _ => by kernel_rfl) ?_
              refine held_free 25 (.bool true) rfl (by kernel_rfl) (by kernel_rfl) (by kernel_rfl) (by kernel_rfl) B0 (fun _ _ => by kernel_rfl) ?_
              refine held_free 26 (.pointer (some ⟨b0, 4, none⟩)) rfl (by kernel_rfl) (by kernel_rfl) (by kernel_rfl) (by kernel_rfl) B0 (fun _ _ => ex_field (v := .pointer (some ⟨b0, 0, none⟩)) 23 (.tmp 1) 4 (by kernel_rfl) (by kernel_rfl) (by kernel_rfl)) ?_
              refine held_free 27 (.int .i64 port) rfl (by kernel_rfl) (by kernel_rfl) (by kernel_rfl) (by kernel_rfl) B0 (fun W b => ex_load 3 (.tmp 29) (by kernel_rfl) ⟨b0, 4, none⟩ (by kernel_rfl) (by kernel_rfl) ((HX.out.below b HX.out.lt).cell 4)) ?_
              refine held_free 28 (.bool true) rfl (by kernel_rfl) (by kernel_rfl) (by kernel_rfl) (by kernel_rfl) B0 (fun _ _ => ex_intleb .i64 3 3 (.tmp 30) (.const (.int .i64 65535)) (by kernel_rfl) (port) (65535) (by kernel_rfl) (by kernel_rfl) (by kernel_rfl) true (H_p1.out)) ?_
              refine held_free 29 (.bool true) rfl (by kernel_rfl) (by kernel_rfl) (by kernel_rfl) (by kernel_rfl) B0 (fun _ _ => by kernel_rfl) ?_
              refine held_free 30 (.bool true) rfl (by kernel_rfl) (by kernel_rfl) (by kernel_rfl) (by kernel_rfl) B0 (fun _ _ => by kernel_rfl) ?_
              refine held_free 31 (.pointer (some ⟨b0, 3, none⟩)) rfl (by kernel_rfl) (by kernel_rfl) (by kernel_rfl) (by kernel_rfl) B0 (fun _ _ => ex_field (v := .pointer (some ⟨b0, 0, none⟩)) 23 (.tmp 1) 3 (by kernel_rfl) (by kernel_rfl) (by kernel_rfl)) ?_
              refine held_free 32 (.bool false) rfl (by kernel_rfl) (by kernel_rfl) (by kernel_rfl) (by kernel_rfl) B0 (fun W b => ex_load 4 (.tmp 34) (by kernel_rfl) ⟨b0, 3, none⟩ (by kernel_rfl) (by kernel_rfl) ((HX.out.below b HX.out.lt).cell 3)) ?_
              refine held_free 33 (.bool false) rfl (by kernel_rfl) (by kernel_rfl) (by kernel_rfl) (by kernel_rfl) B0 (fun _ _ => by kernel_rfl) ?_
              refine held_free 34 (.pointer (some ⟨b0, 4, none⟩)) rfl (by kernel_rfl) (by kernel_rfl) (by kernel_rfl) (by kernel_rfl) B0 (fun _ _ => ex_field (v := .pointer (some ⟨b0, 0, none⟩)) 23 (.tmp 1) 4 (by kernel_rfl) (by kernel_rfl) (by kernel_rfl)) ?_
              refine held_free 35 (.int .i64 port) rfl (by kernel_rfl) (by kernel_rfl) (by kernel_rfl) (by kernel_rfl) B0 (fun W b => ex_load 3 (.tmp 37) (by kernel_rfl) ⟨b0, 4, none⟩ (by kernel_rfl) (by kernel_rfl) ((HX.out.below b HX.out.lt).cell 4)) ?_
              refine held_free 36 (.bool false) rfl (by kernel_rfl) (by kernel_rfl) (by kernel_rfl) (by kernel_rfl) B0 (fun _ _ => ex_inteqb .i64 3 3 (.tmp 38) (.const (.int .i64 0)) (by kernel_rfl) (port) (0) (by kernel_rfl) (by kernel_rfl) (by kernel_rfl) false (H_pz.out)) ?_
              refine held_free 37 (.bool false) rfl (by kernel_rfl) (by kernel_rfl) (by kernel_rfl) (by kernel_rfl) B0 (fun _ _ => by kernel_rfl) ?_
              refine held_free 38 (.bool false) rfl (by kernel_rfl) (by kernel_rfl) (by kernel_rfl) (by kernel_rfl) B0 (fun _ _ => by kernel_rfl) ?_
              refine held_free 39 (.bool false) rfl (by kernel_rfl) (by kernel_rfl) (by kernel_rfl) (by kernel_rfl) B0 (fun _ _ => by kernel_rfl) ?_
              refine held_pass 40 rfl (by kernel_rfl) (by kernel_rfl) (by kernel_rfl) (by kernel_rfl) B0 ?_
              refine held_pass 41 rfl (by kernel_rfl) (by kernel_rfl) (by kernel_rfl) (by kernel_rfl) B0 ?_
              refine held_pass 42 rfl (by kernel_rfl) (by kernel_rfl) (by kernel_rfl) (by kernel_rfl) B0 ?_
              refine held_pass 43 rfl (by kernel_rfl) (by kernel_rfl) (by kernel_rfl) (by kernel_rfl) B0 ?_
              refine held_pass 44 rfl (by kernel_rfl) (by kernel_rfl) (by kernel_rfl) (by kernel_rfl) B0 ?_
              refine held_pass 45 rfl (by kernel_rfl) (by kernel_rfl) (by kernel_rfl) (by kernel_rfl) B0 ?_
              refine held_pass 46 rfl (by kernel_rfl) (by kernel_rfl) (by kernel_rfl) (by kernel_rfl) B0 ?_
              refine held_free 47 (.bool false) rfl (by kernel_rfl) (by kernel_rfl) (by kernel_rfl) (by kernel_rfl) B0 (fun _ _ => by kernel_rfl) ?_
              refine held_free 48 (.bool false) rfl (by kernel_rfl) (by kernel_rfl) (by kernel_rfl) (by kernel_rfl) B0 (fun _ _ => by kernel_rfl) ?_
              refine held_end (by kernel_rfl) ?_
              go_wp2_with fail
              rw [HMM.out]
              exact ret_slot 2 (.bool false) (by kernel_rfl) (by kernel_rfl) (by kernel_rfl) ⟨rfl, by have q := HBV.out.trans (B0.mono HBV.out.size); first | exact q | (rw [HB0.out]; exact q)⟩
          · have H_i0 := Lib.hid (show decide (0 ≤ id) = true from decide_eq_true h_i0)
            have H_i1 := Lib.hid (show decide (id ≤ 255) = true from decide_eq_true h_i1)
            have H_s4 := Lib.hid (show decide ((ip.size : Int) = 4) = true from decide_eq_true h_s4)
            have H_p0 := Lib.hid (show decide (0 ≤ port) = true from decide_eq_true h_p0)
            have H_p1 := Lib.hid (show decide (port ≤ 65535) = false from decide_eq_false h_p1)
            have HX := Lib.hid hx0
            have HMM := Lib.hid (show M = false from hM.trans (decide_eq_false fun m => h_p1 m.2.2.1.2))
            have HB0 := Lib.hid hb0
            have HVE := Lib.hid hV
            clear hx0 hb0 hV hM h_i0 h_i1 h_s4 h_p0 h_p1
            go_enter Try.func22, Try.ntmps22
            go_upto_region 1 with fail
            rw [← HVE.out, ← HB0.out]
            clear HVE
            have B0 : Below V.heap.size V V.drew := (Below.refl _ V).drew
            refine held_start (fun W => Below V.heap.size V W) (by kernel_rfl) (n := 49) rfl ?_
            obtain ⟨W0, hW0⟩ : ∃ W0, W0 = V.drew := ⟨_, rfl⟩
            rw [← hW0] at B0 ⊢
            clear hW0
            refine held_free 0 (.pointer (some ⟨b0, 1, none⟩)) rfl (by kernel_rfl) (by kernel_rfl) (by kernel_rfl) (by kernel_rfl) B0 (fun _ _ => ex_field (v := .pointer (some ⟨b0, 0, none⟩)) 23 (.tmp 1) 1 (by kernel_rfl) (by kernel_rfl) (by kernel_rfl)) ?_
            refine held_free 1 (.int .i64 id) rfl (by kernel_rfl) (by kernel_rfl) (by kernel_rfl) (by kernel_rfl) B0 (fun W b => ex_load 3 (.tmp 3) (by kernel_rfl) ⟨b0, 1, none⟩ (by kernel_rfl) (by kernel_rfl) ((HX.out.below b HX.out.lt).cell 1)) ?_
            refine held_free 2 (.bool true) rfl (by kernel_rfl) (by kernel_rfl) (by kernel_rfl) (by kernel_rfl) B0 (fun _ _ => ex_intleb .i64 3 3 (.const (.int .i64 0)) (.tmp 4) (by kernel_rfl) (0) (id) (by kernel_rfl) (by kernel_rfl) (by kernel_rfl) true (H_i0.out)) ?_
            refine held_free 3 (.bool true) rfl (by kernel_rfl) (by kernel_rfl) (by kernel_rfl) (by kernel_rfl) B0 (fun _ _ => by kernel_rfl) ?_
            refine held_free 4 (.pointer (some ⟨b0, 1, none⟩)) rfl (by kernel_rfl) (by kernel_rfl) (by kernel_rfl) (by kernel_rfl) B0 (fun _ _ => ex_field (v := .pointer (some ⟨b0, 0, none⟩)) 23 (.tmp 1) 1 (by kernel_rfl) (by kernel_rfl) (by kernel_rfl)) ?_
            refine held_free 5 (.int .i64 id) rfl (by kernel_rfl) (by kernel_rfl) (by kernel_rfl) (by kernel_rfl) B0 (fun W b => ex_load 3 (.tmp 7) (by kernel_rfl) ⟨b0, 1, none⟩ (by kernel_rfl) (by kernel_rfl) ((HX.out.below b HX.out.lt).cell 1)) ?_
            refine held_free 6 (.bool true) rfl (by kernel_rfl) (by kernel_rfl) (by kernel_rfl) (by kernel_rfl) B0 (fun _ _ => ex_intleb .i64 3 3 (.tmp 8) (.const (.int .i64 255)) (by kernel_rfl) (id) (255) (by kernel_rfl) (by kernel_rfl) (by kernel_rfl) true (H_i1.out)) ?_
            refine held_free 7 (.bool true) rfl (by kernel_rfl) (by kernel_rfl) (by kernel_rfl) (by kernel_rfl) B0 (fun _ _ => by kernel_rfl) ?_
            refine held_free 8 (.bool true) rfl (by kernel_rfl) (by kernel_rfl) (by kernel_rfl) (by kernel_rfl) B0 (fun _ _ => by kernel_rfl) ?_
            refine held_free 9 (.pointer (some ⟨b0, 2, none⟩)) rfl (by kernel_rfl) (by kernel_rfl) (by kernel_rfl) (by kernel_rfl) B0 (fun _ _ => ex_field (v := .pointer (some ⟨b0, 0, none⟩)) 23 (.tmp 1) 2 (by kernel_rfl) (by kernel_rfl) (by kernel_rfl)) ?_
            refine held_free 10 (.string ip) rfl (by kernel_rfl) (by kernel_rfl) (by kernel_rfl) (by kernel_rfl) B0 (fun W b => ex_load 9 (.tmp 12) (by kernel_rfl) ⟨b0, 2, none⟩ (by kernel_rfl) (by kernel_rfl) ((HX.out.below b HX.out.lt).cell 2)) ?_
            refine held_free 11 (.int .i64 (ip.size : Int)) rfl (by kernel_rfl) (by kernel_rfl) (by kernel_rfl) (by kernel_rfl) B0 (fun _ _ => by kernel_rfl) ?_
            refine held_free 12 (.bool true) rfl (by kernel_rfl) (by kernel_rfl) (by kernel_rfl) (by kernel_rfl) B0 (fun _ _ => ex_inteqb .i64 3 3 (.tmp 14) (.const (.int .i64 4)) (by kernel_rfl) ((ip.size : Int)) (4) (by kernel_rfl) (by kernel_rfl) (by kernel_rfl) true (H_s4.out)) ?_
            refine held_free 13 (.bool true) rfl (by kernel_rfl) (by kernel_rfl) (by kernel_rfl) (by kernel_rfl) B0 (fun _ _ => by kernel_rfl) ?_
            refine held_pass 14 rfl (by kernel_rfl) (by kernel_rfl) (by kernel_rfl) (by kernel_rfl) B0 ?_
            refine held_pass 15 rfl (by kernel_rfl) (by kernel_rfl) (by kernel_rfl) (by kernel_rfl) B0 ?_
            refine held_pass 16 rfl (by kernel_rfl) (by kernel_rfl) (by kernel_rfl) (by kernel_rfl) B0 ?_
            refine held_pass 17 rfl (by kernel_rfl) (by kernel_rfl) (by kernel_rfl) (by kernel_rfl) B0 ?_
            refine held_free 18 (.bool true) rfl (by kernel_rfl) (by kernel_rfl) (by kernel_rfl) (by kernel_rfl) B0 (fun _ _ => by kernel_rfl) ?_
            refine held_free 19 (.bool true) rfl (by kernel_rfl) (by kernel_rfl) (by kernel_rfl) (by kernel_rfl) B0 (fun _ _ => by kernel_rfl) ?_
            refine held_free 20 (.bool true) rfl (by kernel_rfl) (by kernel_rfl) (by kernel_rfl) (by kernel_rfl) B0 (fun _ _ => by kernel_rfl) ?_
            refine held_free 21 (.pointer (some ⟨b0, 4, none⟩)) rfl (by kernel_rfl) (by kernel_rfl) (by kernel_rfl) (by kernel_rfl) B0 (fun _ _ => ex_field (v := .pointer (some ⟨b0, 0, none⟩)) 23 (.tmp 1) 4 (by kernel_rfl) (by kernel_rfl) (by kernel_rfl)) ?_
            refine held_free 22 (.int .i64 port) rfl (by kernel_rfl) (by kernel_rfl) (by kernel_rfl) (by kernel_rfl) B0 (fun W b => ex_load 3 (.tmp 24) (by kernel_rfl) ⟨b0, 4, none⟩ (by kernel_rfl) (by kernel_rfl) ((HX.out.below b HX.out.lt).cell 4)) ?_
            refine held_free 23 (.bool true) rfl (by kernel_rfl) (by kernel_rfl) (by kernel_rfl) (by kernel_rfl) B0 (fun _ _ => ex_intleb .i64 3 3 (.const (.int .i64 0)) (.tmp 25) (by kernel_rfl) (0) (port) (by kernel_rfl) (by kernel_rfl) (by kernel_rfl) true (H_p0.out)) ?_
            refine held_free 24 (.bool true) rfl (by kernel_rfl) (by kernel_rfl) (by kernel_rfl) (by kernel_rfl) B0 (fun _ _ => by kernel_rfl) ?_
            refine held_free 25 (.bool true) rfl (by kernel_rfl) (by kernel_rfl) (by kernel_rfl) (by kernel_rfl) B0 (fun _ _ => by kernel_rfl) ?_
            refine held_free 26 (.pointer (some ⟨b0, 4, none⟩)) rfl (by kernel_rfl) (by kernel_rfl) (by kernel_rfl) (by kernel_rfl) B0 (fun _ _ => ex_field (v := .pointer (some ⟨b0, 0, none⟩)) 23 (.tmp 1) 4 (by kernel_rfl) (by kernel_rfl) (by kernel_rfl)) ?_
            refine held_free 27 (.int .i64 port) rfl (by kernel_rfl) (by kernel_rfl) (by kernel_rfl) (by kernel_rfl) B0 (fun W b => ex_load 3 (.tmp 29) (by kernel_rfl) ⟨b0, 4, none⟩ (by kernel_rfl) (by kernel_rfl) ((HX.out.below b HX.out.lt).cell 4)) ?_
            refine held_free 28 (.bool false) rfl (by kernel_rfl) (by kernel_rfl) (by kernel_rfl) (by kernel_rfl) B0 (fun _ _ => ex_intleb .i64 3 3 (.tmp 30) (.const (.int .i64 65535)) (by kernel_rfl) (port) (65535) (by kernel_rfl) (by kernel_rfl) (by kernel_rfl) false (H_p1.out)) ?_
            refine held_free 29 (.bool false) rfl (by kernel_rfl) (by kernel_rfl) (by kernel_rfl) (by kernel_rfl) B0 (fun _ _ => by kernel_rfl) ?_
            refine held_free 30 (.bool false) rfl (by kernel_rfl) (by kernel_rfl) (by kernel_rfl) (by kernel_rfl) B0 (fun _ _ => by kernel_rfl) ?_
            refine held_pass 31 rfl (by kernel_rfl) (by kernel_rfl) (by kernel_rfl) (by kernel_rfl) B0 ?_
            refine held_pass 32 rfl (by kernel_rfl) (by kernel_rfl) (by kernel_rfl) (by kernel_rfl) B0 ?_
            refine held_pass 33 rfl (by kernel_rfl) (by kernel_rfl) (by kernel_rfl) (by kernel_rfl) B0 ?_
            refine held_pass 34 rfl (by kernel_rfl) (by kernel_rfl) (by kernel_rfl) (by kernel_rfl) B0 ?_
            refine held_pass 35 rfl (by kernel_rfl) (by kernel_rfl) (by kernel_rfl) (by kernel_rfl) B0 ?_
            refine held_pass 36 rfl (by kernel_rfl) (by kernel_rfl) (by kernel_rfl) (by kernel_rfl) B0 ?_
            refine held_pass 37 rfl (by kernel_rfl) (by kernel_rfl) (by kernel_rfl) (by kernel_rfl) B0 ?_
            refine held_free 38 (.bool false) rfl (by kernel_rfl) (by kernel_rfl) (by kernel_rfl) (by kernel_rfl) B0 (fun _ _ => by kernel_rfl) ?_
            refine held_free 39 (.bool false) rfl (by kernel_rfl) (by kernel_rfl) (by kernel_rfl) (by kernel_rfl) B0 (fun _ _ => by kernel_rfl) ?_
            refine held_pass 40 rfl (by kernel_rfl) (by kernel_rfl) (by kernel_rfl) (by kernel_rfl) B0 ?_
            refine held_pass 41 rfl (by kernel_rfl) (by kernel_rfl) (by kernel_rfl) (by kernel_rfl) B0 ?_
            refine held_pass 42 rfl (by kernel_rfl) (by kernel_rfl) (by kernel_rfl) (by kernel_rfl) B0 ?_
            refine held_pass 43 rfl (by kernel_rfl) (by kernel_rfl) (by kernel_rfl) (by kernel_rfl) B0 ?_
            refine held_pass 44 rfl (by kernel_rfl) (by kernel_rfl) (by kernel_rfl) (by kernel_rfl) B0 ?_
            refine held_pass 45 rfl (by kernel_rfl) (by kernel_rfl) (by kernel_rfl) (by kernel_rfl) B0 ?_
            refine held_pass 46 rfl (by kernel_rfl) (by kernel_rfl) (by kernel_rfl) (by kernel_rfl) B0 ?_
            refine held_free 47 (.bool false) rfl (by kernel_rfl) (by kernel_rfl) (by kernel_rfl) (by kernel_rfl) B0 (fun _ _ => by kernel_rfl) ?_
            refine held_free 48 (.bool false) rfl (by kernel_rfl) (by kernel_rfl) (by kernel_rfl) (by kernel_rfl) B0 (fun _ _ => by kernel_rfl) ?_
            refine held_end (by kernel_rfl) ?_
            go_wp2_with fail
            rw [HMM.out]
            exact ret_slot 2 (.bool false) (by kernel_rfl) (by kernel_rfl) (by kernel_rfl) ⟨rfl, by have q := HBV.out.trans (B0.mono HBV.out.size); first | exact q | (rw [HB0.out]; exact q)⟩
        · have H_i0 := Lib.hid (show decide (0 ≤ id) = true from decide_eq_true h_i0)
          have H_i1 := Lib.hid (show decide (id ≤ 255) = true from decide_eq_true h_i1)
          have H_s4 := Lib.hid (show decide ((ip.size : Int) = 4) = true from decide_eq_true h_s4)
          have H_p0 := Lib.hid (show decide (0 ≤ port) = false from decide_eq_false h_p0)
          have HX := Lib.hid hx0
          have HMM := Lib.hid (show M = false from hM.trans (decide_eq_false fun m => h_p0 m.2.2.1.1))
          have HB0 := Lib.hid hb0
          have HVE := Lib.hid hV
          clear hx0 hb0 hV hM h_i0 h_i1 h_s4 h_p0
          go_enter Try.func22, Try.ntmps22
          go_upto_region 1 with fail
          rw [← HVE.out, ← HB0.out]
          clear HVE
          have B0 : Below V.heap.size V V.drew := (Below.refl _ V).drew
          refine held_start (fun W => Below V.heap.size V W) (by kernel_rfl) (n := 49) rfl ?_
          obtain ⟨W0, hW0⟩ : ∃ W0, W0 = V.drew := ⟨_, rfl⟩
          rw [← hW0] at B0 ⊢
          clear hW0
          refine held_free 0 (.pointer (some ⟨b0, 1, none⟩)) rfl (by kernel_rfl) (by kernel_rfl) (by kernel_rfl) (by kernel_rfl) B0 (fun _ _ => ex_field (v := .pointer (some ⟨b0, 0, none⟩)) 23 (.tmp 1) 1 (by kernel_rfl) (by kernel_rfl) (by kernel_rfl)) ?_
          refine held_free 1 (.int .i64 id) rfl (by kernel_rfl) (by kernel_rfl) (by kernel_rfl) (by kernel_rfl) B0 (fun W b => ex_load 3 (.tmp 3) (by kernel_rfl) ⟨b0, 1, none⟩ (by kernel_rfl) (by kernel_rfl) ((HX.out.below b HX.out.lt).cell 1)) ?_
          refine held_free 2 (.bool true) rfl (by kernel_rfl) (by kernel_rfl) (by kernel_rfl) (by kernel_rfl) B0 (fun _ _ => ex_intleb .i64 3 3 (.const (.int .i64 0)) (.tmp 4) (by kernel_rfl) (0) (id) (by kernel_rfl) (by kernel_rfl) (by kernel_rfl) true (H_i0.out)) ?_
          refine held_free 3 (.bool true) rfl (by kernel_rfl) (by kernel_rfl) (by kernel_rfl) (by kernel_rfl) B0 (fun _ _ => by kernel_rfl) ?_
          refine held_free 4 (.pointer (some ⟨b0, 1, none⟩)) rfl (by kernel_rfl) (by kernel_rfl) (by kernel_rfl) (by kernel_rfl) B0 (fun _ _ => ex_field (v := .pointer (some ⟨b0, 0, none⟩)) 23 (.tmp 1) 1 (by kernel_rfl) (by kernel_rfl) (by kernel_rfl)) ?_
          refine held_free 5 (.int .i64 id) rfl (by kernel_rfl) (by kernel_rfl) (by kernel_rfl) (by kernel_rfl) B0 (fun W b => ex_load 3 (.tmp 7) (by kernel_rfl) ⟨b0, 1, none⟩ (by kernel_rfl) (by kernel_rfl) ((HX.out.below b HX.out.lt).cell 1)) ?_
          refine held_free 6 (.bool true) rfl (by kernel_rfl) (by kernel_rfl) (by kernel_rfl) (by kernel_rfl) B0 (fun _ _ => ex_intleb .i64 3 3 (.tmp 8) (.const (.int .i64 255)) (by kernel_rfl) (id) (255) (by kernel_rfl) (by kernel_rfl) (by kernel_rfl) true (H_i1.out)) ?_
          refine held_free 7 (.bool true) rfl (by kernel_rfl) (by kernel_rfl) (by kernel_rfl) (by kernel_rfl) B0 (fun _ _ => by kernel_rfl) ?_
          refine held_free 8 (.bool true) rfl (by kernel_rfl) (by kernel_rfl) (by kernel_rfl) (by kernel_rfl) B0 (fun _ _ => by kernel_rfl) ?_
          refine held_free 9 (.pointer (some ⟨b0, 2, none⟩)) rfl (by kernel_rfl) (by kernel_rfl) (by kernel_rfl) (by kernel_rfl) B0 (fun _ _ => ex_field (v := .pointer (some ⟨b0, 0, none⟩)) 23 (.tmp 1) 2 (by kernel_rfl) (by kernel_rfl) (by kernel_rfl)) ?_
          refine held_free 10 (.string ip) rfl (by kernel_rfl) (by kernel_rfl) (by kernel_rfl) (by kernel_rfl) B0 (fun W b => ex_load 9 (.tmp 12) (by kernel_rfl) ⟨b0, 2, none⟩ (by kernel_rfl) (by kernel_rfl) ((HX.out.below b HX.out.lt).cell 2)) ?_
          refine held_free 11 (.int .i64 (ip.size : Int)) rfl (by kernel_rfl) (by kernel_rfl) (by kernel_rfl) (by kernel_rfl) B0 (fun _ _ => by kernel_rfl) ?_
          refine held_free 12 (.bool true) rfl (by kernel_rfl) (by kernel_rfl) (by kernel_rfl) (by kernel_rfl) B0 (fun _ _ => ex_inteqb .i64 3 3 (.tmp 14) (.const (.int .i64 4)) (by kernel_rfl) ((ip.size : Int)) (4) (by kernel_rfl) (by kernel_rfl) (by kernel_rfl) true (H_s4.out)) ?_
          refine held_free 13 (.bool true) rfl (by kernel_rfl) (by kernel_rfl) (by kernel_rfl) (by kernel_rfl) B0 (fun _ _ => by kernel_rfl) ?_
          refine held_pass 14 rfl (by kernel_rfl) (by kernel_rfl) (by kernel_rfl) (by kernel_rfl) B0 ?_
          refine held_pass 15 rfl (by kernel_rfl) (by kernel_rfl) (by kernel_rfl) (by kernel_rfl) B0 ?_
          refine held_pass 16 rfl (by kernel_rfl) (by kernel_rfl) (by kernel_rfl) (by kernel_rfl) B0 ?_
          refine held_pass 17 rfl (by kernel_rfl) (by kernel_rfl) (by kernel_rfl) (by kernel_rfl) B0 ?_
          refine held_free 18 (.bool true) rfl (by kernel_rfl) (by kernel_rfl) (by kernel_rfl) (by kernel_rfl) B0 (fun _ _ => by kernel_rfl) ?_
          refine held_free 19 (.bool true) rfl (by kernel_rfl) (by kernel_rfl) (by kernel_rfl) (by kernel_rfl) B0 (fun _ _ => by kernel_rfl) ?_
          refine held_free 20 (.bool true) rfl (by kernel_rfl) (by kernel_rfl) (by kernel_rfl) (by kernel_rfl) B0 (fun _ _ => by kernel_rfl) ?_
          refine held_free 21 (.pointer (some ⟨b0, 4, none⟩)) rfl (by kernel_rfl) (by kernel_rfl) (by kernel_rfl) (by kernel_rfl) B0 (fun _ _ => ex_field (v := .pointer (some ⟨b0, 0, none⟩)) 23 (.tmp 1) 4 (by kernel_rfl) (by kernel_rfl) (by kernel_rfl)) ?_
          refine held_free 22 (.int .i64 port) rfl (by kernel_rfl) (by kernel_rfl) (by kernel_rfl) (by kernel_rfl) B0 (fun W b => ex_load 3 (.tmp 24) (by kernel_rfl) ⟨b0, 4, none⟩ (by kernel_rfl) (by kernel_rfl) ((HX.out.below b HX.out.lt).cell 4)) ?_
          refine held_free 23 (.bool false) rfl (by kernel_rfl) (by kernel_rfl) (by kernel_rfl) (by kernel_rfl) B0 (fun _ _ => ex_intleb .i64 3 3 (.const (.int .i64 0)) (.tmp 25) (by kernel_rfl) (0) (port) (by kernel_rfl) (by kernel_rfl) (by kernel_rfl) false (H_p0.out)) ?_
          refine held_free 24 (.bool false) rfl (by kernel_rfl) (by kernel_rfl) (by kernel_rfl) (by kernel_rfl) B0 (fun _ _ => by kernel_rfl) ?_
          refine held_free 25 (.bool false) rfl (by kernel_rfl) (by kernel_rfl) (by kernel_rfl) (by kernel_rfl) B0 (fun _ _ => by kernel_rfl) ?_
          refine held_pass 26 rfl (by kernel_rfl) (by kernel_rfl) (by kernel_rfl) (by kernel_rfl) B0 ?_
          refine held_pass 27 rfl (by kernel_rfl) (by kernel_rfl) (by kernel_rfl) (by kernel_rfl) B0 ?_
          refine held_pass 28 rfl (by kernel_rfl) (by kernel_rfl) (by kernel_rfl) (by kernel_rfl) B0 ?_
          refine held_free 29 (.bool false) rfl (by kernel_rfl) (by kernel_rfl) (by kernel_rfl) (by kernel_rfl) B0 (fun _ _ => by kernel_rfl) ?_
          refine held_free 30 (.bool false) rfl (by kernel_rfl) (by kernel_rfl) (by kernel_rfl) (by kernel_rfl) B0 (fun _ _ => by kernel_rfl) ?_
          refine held_pass 31 rfl (by kernel_rfl) (by kernel_rfl) (by kernel_rfl) (by kernel_rfl) B0 ?_
          refine held_pass 32 rfl (by kernel_rfl) (by kernel_rfl) (by kernel_rfl) (by kernel_rfl) B0 ?_
          refine held_pass 33 rfl (by kernel_rfl) (by kernel_rfl) (by kernel_rfl) (by kernel_rfl) B0 ?_
          refine held_pass 34 rfl (by kernel_rfl) (by kernel_rfl) (by kernel_rfl) (by kernel_rfl) B0 ?_
          refine held_pass 35 rfl (by kernel_rfl) (by kernel_rfl) (by kernel_rfl) (by kernel_rfl) B0 ?_
          refine held_pass 36 rfl (by kernel_rfl) (by kernel_rfl) (by kernel_rfl) (by kernel_rfl) B0 ?_
          refine held_pass 37 rfl (by kernel_rfl) (by kernel_rfl) (by kernel_rfl) (by kernel_rfl) B0 ?_
          refine held_free 38 (.bool false) rfl (by kernel_rfl) (by kernel_rfl) (by kernel_rfl) (by kernel_rfl) B0 (fun _ _ => by kernel_rfl) ?_
          refine held_free 39 (.bool false) rfl (by kernel_rfl) (by kernel_rfl) (by kernel_rfl) (by kernel_rfl) B0 (fun _ _ => by kernel_rfl) ?_
          refine held_pass 40 rfl (by kernel_rfl) (by kernel_rfl) (by kernel_rfl) (by kernel_rfl) B0 ?_
          refine held_pass 41 rfl (by kernel_rfl) (by kernel_rfl) (by kernel_rfl) (by kernel_rfl) B0 ?_
          refine held_pass 42 rfl (by kernel_rfl) (by kernel_rfl) (by kernel_rfl) (by kernel_rfl) B0 ?_
          refine held_pass 43 rfl (by kernel_rfl) (by kernel_rfl) (by kernel_rfl) (by kernel_rfl) B0 ?_
          refine held_pass 44 rfl (by kernel_rfl) (by kernel_rfl) (by kernel_rfl) (by kernel_rfl) B0 ?_
          refine held_pass 45 rfl (by kernel_rfl) (by kernel_rfl) (by kernel_rfl) (by kernel_rfl) B0 ?_
          refine held_pass 46 rfl (by kernel_rfl) (by kernel_rfl) (by kernel_rfl) (by kernel_rfl) B0 ?_
          refine held_free 47 (.bool false) rfl (by kernel_rfl) (by kernel_rfl) (by kernel_rfl) (by kernel_rfl) B0 (fun _ _ => by kernel_rfl) ?_
          refine held_free 48 (.bool false) rfl (by kernel_rfl) (by kernel_rfl) (by kernel_rfl) (by kernel_rfl) B0 (fun _ _ => by kernel_rfl) ?_
          refine held_end (by kernel_rfl) ?_
          go_wp2_with fail
          rw [HMM.out]
          exact ret_slot 2 (.bool false) (by kernel_rfl) (by kernel_rfl) (by kernel_rfl) ⟨rfl, by have q := HBV.out.trans (B0.mono HBV.out.size); first | exact q | (rw [HB0.out]; exact q)⟩
      · by_cases h_s16 : (ip.size : Int) = 16
        · by_cases h_p0 : 0 ≤ port
          · by_cases h_p1 : port ≤ 65535
            · by_cases h_pz : port = 0
              · by_cases h_mc : (mac.size : Int) = (macOf echo : Int)
                · have H_i0 := Lib.hid (show decide (0 ≤ id) = true from decide_eq_true h_i0)
                  have H_i1 := Lib.hid (show decide (id ≤ 255) = true from decide_eq_true h_i1)
                  have H_s4 := Lib.hid (show decide ((ip.size : Int) = 4) = false from decide_eq_false h_s4)
                  have H_s16 := Lib.hid (show decide ((ip.size : Int) = 16) = true from decide_eq_true h_s16)
                  have H_p0 := Lib.hid (show decide (0 ≤ port) = true from decide_eq_true h_p0)
                  have H_p1 := Lib.hid (show decide (port ≤ 65535) = true from decide_eq_true h_p1)
                  have H_pz := Lib.hid (show decide (port = 0) = true from decide_eq_true h_pz)
                  have H_mc := Lib.hid (show decide ((mac.size : Int) = (macOf echo : Int)) = true from decide_eq_true h_mc)
                  have HX := Lib.hid hx0
                  have HMM := Lib.hid (show M = true from hM.trans (decide_eq_true ⟨⟨h_i0, h_i1⟩, .inr (show ip.size = 16 by omega), ⟨h_p0, h_p1⟩, .inr h_pz, by show mac.size = macOf echo; omega⟩))
                  have HB0 := Lib.hid hb0
                  have HVE := Lib.hid hV
                  clear hx0 hb0 hV hM h_i0 h_i1 h_s4 h_s16 h_p0 h_p1 h_pz h_mc
                  go_enter Try.func22, Try.ntmps22
                  go_upto_region 1 with fail
                  rw [← HVE.out, ← HB0.out]
                  clear HVE
                  have B0 : Below V.heap.size V V.drew := (Below.refl _ V).drew
                  refine held_start (fun W => Below V.heap.size V W) (by kernel_rfl) (n := 49) rfl ?_
                  obtain ⟨W0, hW0⟩ : ∃ W0, W0 = V.drew := ⟨_, rfl⟩
                  rw [← hW0] at B0 ⊢
                  clear hW0
                  refine held_free 0 (.pointer (some ⟨b0, 1, none⟩)) rfl (by kernel_rfl) (by kernel_rfl) (by kernel_rfl) (by kernel_rfl) B0 (fun _ _ => ex_field (v := .pointer (some ⟨b0, 0, none⟩)) 23 (.tmp 1) 1 (by kernel_rfl) (by kernel_rfl) (by kernel_rfl)) ?_
                  refine held_free 1 (.int .i64 id) rfl (by kernel_rfl) (by kernel_rfl) (by kernel_rfl) (by kernel_rfl) B0 (fun W b => ex_load 3 (.tmp 3) (by kernel_rfl) ⟨b0, 1, none⟩ (by kernel_rfl) (by kernel_rfl) ((HX.out.below b HX.out.lt).cell 1)) ?_
                  refine held_free 2 (.bool true) rfl (by kernel_rfl) (by kernel_rfl) (by kernel_rfl) (by kernel_rfl) B0 (fun _ _ => ex_intleb .i64 3 3 (.const (.int .i64 0)) (.tmp 4) (by kernel_rfl) (0) (id) (by kernel_rfl) (by kernel_rfl) (by kernel_rfl) true (H_i0.out)) ?_
                  refine held_free 3 (.bool true) rfl (by kernel_rfl) (by kernel_rfl) (by kernel_rfl) (by kernel_rfl) B0 (fun _ _ => by kernel_rfl) ?_
                  refine held_free 4 (.pointer (some ⟨b0, 1, none⟩)) rfl (by kernel_rfl) (by kernel_rfl) (by kernel_rfl) (by kernel_rfl) B0 (fun _ _ => ex_field (v := .pointer (some ⟨b0, 0, none⟩)) 23 (.tmp 1) 1 (by kernel_rfl) (by kernel_rfl) (by kernel_rfl)) ?_
                  refine held_free 5 (.int .i64 id) rfl (by kernel_rfl) (by kernel_rfl) (by kernel_rfl) (by kernel_rfl) B0 (fun W b => ex_load 3 (.tmp 7) (by kernel_rfl) ⟨b0, 1, none⟩ (by kernel_rfl) (by kernel_rfl) ((HX.out.below b HX.out.lt).cell 1)) ?_
                  refine held_free 6 (.bool true) rfl (by kernel_rfl) (by kernel_rfl) (by kernel_rfl) (by kernel_rfl) B0 (fun _ _ => ex_intleb .i64 3 3 (.tmp 8) (.const (.int .i64 255)) (by kernel_rfl) (id) (255) (by kernel_rfl) (by kernel_rfl) (by kernel_rfl) true (H_i1.out)) ?_
                  refine held_free 7 (.bool true) rfl (by kernel_rfl) (by kernel_rfl) (by kernel_rfl) (by kernel_rfl) B0 (fun _ _ => by kernel_rfl) ?_
                  refine held_free 8 (.bool true) rfl (by kernel_rfl) (by kernel_rfl) (by kernel_rfl) (by kernel_rfl) B0 (fun _ _ => by kernel_rfl) ?_
                  refine held_free 9 (.pointer (some ⟨b0, 2, none⟩)) rfl (by kernel_rfl) (by kernel_rfl) (by kernel_rfl) (by kernel_rfl) B0 (fun _ _ => ex_field (v := .pointer (some ⟨b0, 0, none⟩)) 23 (.tmp 1) 2 (by kernel_rfl) (by kernel_rfl) (by kernel_rfl)) ?_
                  refine held_free 10 (.string ip) rfl (by kernel_rfl) (by kernel_rfl) (by kernel_rfl) (by kernel_rfl) B0 (fun W b => ex_load 9 (.tmp 12) (by kernel_rfl) ⟨b0, 2, none⟩ (by kernel_rfl) (by kernel_rfl) ((HX.out.below b HX.out.lt).cell 2)) ?_
                  refine held_free 11 (.int .i64 (ip.size : Int)) rfl (by kernel_rfl) (by kernel_rfl) (by kernel_rfl) (by kernel_rfl) B0 (fun _ _ => by kernel_rfl) ?_
                  refine held_free 12 (.bool false) rfl (by kernel_rfl) (by kernel_rfl) (by kernel_rfl) (by kernel_rfl) B0 (fun _ _ => ex_inteqb .i64 3 3 (.tmp 14) (.const (.int .i64 4)) (by kernel_rfl) ((ip.size : Int)) (4) (by kernel_rfl) (by kernel_rfl) (by kernel_rfl) false (H_s4.out)) ?_
                  refine held_free 13 (.bool false) rfl (by kernel_rfl) (by kernel_rfl) (by kernel_rfl) (by kernel_rfl) B0 (fun _ _ => by kernel_rfl) ?_
                  refine held_free 14 (.pointer (some ⟨b0, 2, none⟩)) rfl (by kernel_rfl) (by kernel_rfl) (by kernel_rfl) (by kernel_rfl) B0 (fun _ _ => ex_field (v := .pointer (some ⟨b0, 0, none⟩)) 23 (.tmp 1) 2 (by kernel_rfl) (by kernel_rfl) (by kernel_rfl)) ?_
                  refine held_free 15 (.string ip) rfl (by kernel_rfl) (by kernel_rfl) (by kernel_rfl) (by kernel_rfl) B0 (fun W b => ex_load 9 (.tmp 17) (by kernel_rfl) ⟨b0, 2, none⟩ (by kernel_rfl) (by kernel_rfl) ((HX.out.below b HX.out.lt).cell 2)) ?_
                  refine held_free 16 (.int .i64 (ip.size : Int)) rfl (by kernel_rfl) (by kernel_rfl) (by kernel_rfl) (by kernel_rfl) B0 (fun _ _ => by kernel_rfl) ?_
                  refine held_free 17 (.bool true) rfl (by kernel_rfl) (by kernel_rfl) (by kernel_rfl) (by kernel_rfl) B0 (fun _ _ => ex_inteqb .i64 3 3 (.tmp 19) (.const (.int .i64 16)) (by kernel_rfl) ((ip.size : Int)) (16) (by kernel_rfl) (by kernel_rfl) (by kernel_rfl) true (H_s16.out)) ?_
                  refine held_free 18 (.bool true) rfl (by kernel_rfl) (by kernel_rfl) (by kernel_rfl) (by kernel_rfl) B0 (fun _ _ => by kernel_rfl) ?_
                  refine held_free 19 (.bool true) rfl (by kernel_rfl) (by kernel_rfl) (by kernel_rfl) (by kernel_rfl) B0 (fun _ _ => by kernel_rfl) ?_
                  refine held_free 20 (.bool true) rfl (by kernel_rfl) (by kernel_rfl) (by kernel_rfl) (by kernel_rfl) B0 (fun _ _ => by kernel_rfl) ?_
                  refine held_free 21 (.pointer (some ⟨b0, 4, none⟩)) rfl (by kernel_rfl) (by kernel_rfl) (by kernel_rfl) (by kernel_rfl) B0 (fun _ _ => ex_field (v := .pointer (some ⟨b0, 0, none⟩)) 23 (.tmp 1) 4 (by kernel_rfl) (by kernel_rfl) (by kernel_rfl)) ?_
                  refine held_free 22 (.int .i64 port) rfl (by kernel_rfl) (by kernel_rfl) (by kernel_rfl) (by kernel_rfl) B0 (fun W b => ex_load 3 (.tmp 24) (by kernel_rfl) ⟨b0, 4, none⟩ (by kernel_rfl) (by kernel_rfl) ((HX.out.below b HX.out.lt).cell 4)) ?_
                  refine held_free 23 (.bool true) rfl (by kernel_rfl) (by kernel_rfl) (by kernel_rfl) (by kernel_rfl) B0 (fun _ _ => ex_intleb .i64 3 3 (.const (.int .i64 0)) (.tmp 25) (by kernel_rfl) (0) (port) (by kernel_rfl) (by kernel_rfl) (by kernel_rfl) true (H_p0.out)) ?_
                  refine held_free 24 (.bool true) rfl (by kernel_rfl) (by kernel_rfl) (by kernel_rfl) (by kernel_rfl) B0 (fun _ _ => by kernel_rfl) ?_
                  refine held_free 25 (.bool true) rfl (by kernel_rfl) (by kernel_rfl) (by kernel_rfl) (by kernel_rfl) B0 (fun _ _ => by kernel_rfl) ?_
                  refine held_free 26 (.pointer (some ⟨b0, 4, none⟩)) rfl (by kernel_rfl) (by kernel_rfl) (by kernel_rfl) (by kernel_rfl) B0 (fun _ _ => ex_field (v := .pointer (some ⟨b0, 0, none⟩)) 23 (.tmp 1) 4 (by kernel_rfl) (by kernel_rfl) (by kernel_rfl)) ?_
                  refine held_free 27 (.int .i64 port) rfl (by kernel_rfl) (by kernel_rfl) (by kernel_rfl) (by kernel_rfl) B0 (fun W b => ex_load 3 (.tmp 29) (by kernel_rfl) ⟨b0, 4, none⟩ (by kernel_rfl) (by kernel_rfl) ((HX.out.below b HX.out.lt).cell 4)) ?_
                  refine held_free 28 (.bool true) rfl (by kernel_rfl) (by kernel_rfl) (by kernel_rfl) (by kernel_rfl) B0 (fun _ _ => ex_intleb .i64 3 3 (.tmp 30) (.const (.int .i64 65535)) (by kernel_rfl) (port) (65535) (by kernel_rfl) (by kernel_rfl) (by kernel_rfl) true (H_p1.out)) ?_
                  refine held_free 29 (.bool true) rfl (by kernel_rfl) (by kernel_rfl) (by kernel_rfl) (by kernel_rfl) B0 (fun _ _ => by kernel_rfl) ?_
                  refine held_free 30 (.bool true) rfl (by kernel_rfl) (by kernel_rfl) (by kernel_rfl) (by kernel_rfl) B0 (fun _ _ => by kernel_rfl) ?_
                  refine held_free 31 (.pointer (some ⟨b0, 3, none⟩)) rfl (by kernel_rfl) (by kernel_rfl) (by kernel_rfl) (by kernel_rfl) B0 (fun _ _ => ex_field (v := .pointer (some ⟨b0, 0, none⟩)) 23 (.tmp 1) 3 (by kernel_rfl) (by kernel_rfl) (by kernel_rfl)) ?_
                  refine held_free 32 (.bool false) rfl (by kernel_rfl) (by kernel_rfl) (by kernel_rfl) (by kernel_rfl) B0 (fun W b => ex_load 4 (.tmp 34) (by kernel_rfl) ⟨b0, 3, none⟩ (by kernel_rfl) (by kernel_rfl) ((HX.out.below b HX.out.lt).cell 3)) ?_
                  refine held_free 33 (.bool false) rfl (by kernel_rfl) (by kernel_rfl) (by kernel_rfl) (by kernel_rfl) B0 (fun _ _ => by kernel_rfl) ?_
                  refine held_free 34 (.pointer (some ⟨b0, 4, none⟩)) rfl (by kernel_rfl) (by kernel_rfl) (by kernel_rfl) (by kernel_rfl) B0 (fun _ _ => ex_field (v := .pointer (some ⟨b0, 0, none⟩)) 23 (.tmp 1) 4 (by kernel_rfl) (by kernel_rfl) (by kernel_rfl)) ?_
                  refine held_free 35 (.int .i64 port) rfl (by kernel_rfl) (by kernel_rfl) (by kernel_rfl) (by kernel_rfl) B0 (fun W b => ex_load 3 (.tmp 37) (by kernel_rfl) ⟨b0, 4, none⟩ (by kernel_rfl) (by kernel_rfl) ((HX.out.below b HX.out.lt).cell 4)) ?_
                  refine held_free 36 (.bool true) rfl (by kernel_rfl) (by kernel_rfl) (by kernel_rfl) (by kernel_rfl) B0 (fun _ _ => ex_inteqb .i64 3 3 (.tmp 38) (.const (.int .i64 0)) (by kernel_rfl) (port) (0) (by kernel_rfl) (by kernel_rfl) (by kernel_rfl) true (H_pz.out)) ?_
                  refine held_free 37 (.bool true) rfl (by kernel_rfl) (by kernel_rfl) (by kernel_rfl) (by kernel_rfl) B0 (fun _ _ => by kernel_rfl) ?_
                  refine held_free 38 (.bool true) rfl (by kernel_rfl) (by kernel_rfl) (by kernel_rfl) (by kernel_rfl) B0 (fun _ _ => by kernel_rfl) ?_
                  refine held_free 39 (.bool true) rfl (by kernel_rfl) (by kernel_rfl) (by kernel_rfl) (by kernel_rfl) B0 (fun _ _ => by kernel_rfl) ?_
                  refine held_free 40 (.pointer (some ⟨b0, 5, none⟩)) rfl (by kernel_rfl) (by kernel_rfl) (by kernel_rfl) (by kernel_rfl) B0 (fun _ _ => ex_field (v := .pointer (some ⟨b0, 0, none⟩)) 23 (.tmp 1) 5 (by kernel_rfl) (by kernel_rfl) (by kernel_rfl)) ?_
                  refine held_free 41 (.string mac) rfl (by kernel_rfl) (by kernel_rfl) (by kernel_rfl) (by kernel_rfl) B0 (fun W b => ex_load 9 (.tmp 43) (by kernel_rfl) ⟨b0, 5, none⟩ (by kernel_rfl) (by kernel_rfl) ((HX.out.below b HX.out.lt).cell 5)) ?_
                  refine held_free 42 (.int .i64 (mac.size : Int)) rfl (by kernel_rfl) (by kernel_rfl) (by kernel_rfl) (by kernel_rfl) B0 (fun _ _ => by kernel_rfl) ?_
                  refine held_free 43 (.pointer (some ⟨b0, 0, none⟩)) rfl (by kernel_rfl) (by kernel_rfl) (by kernel_rfl) (by kernel_rfl) B0 (fun _ _ => ex_field (v := .pointer (some ⟨b0, 0, none⟩)) 23 (.tmp 1) 0 (by kernel_rfl) (by kernel_rfl) (by kernel_rfl)) ?_
                  refine held_free 44 (.bool echo) rfl (by kernel_rfl) (by kernel_rfl) (by kernel_rfl) (by kernel_rfl) B0 (fun W b => ex_load 4 (.tmp 46) (by kernel_rfl) ⟨b0, 0, none⟩ (by kernel_rfl) (by kernel_rfl) ((HX.out.below b HX.out.lt).cell 0)) ?_
                  refine held_call 45 rfl (by kernel_rfl) (by kernel_rfl) (by kernel_rfl) (macSizeOf_any echo _) (fun w' h => bel_in B0 h) ?_
                  intro W1 hW1
                  have B1 := bel_in B0 hW1
                  clear hW1 B0
                  refine held_free 46 (.bool true) rfl (by kernel_rfl) (by kernel_rfl) (by kernel_rfl) (by kernel_rfl) B1 (fun _ _ => ex_inteqb .i64 3 3 (.tmp 45) (.tmp 48) (by kernel_rfl) ((mac.size : Int)) ((macOf echo : Int)) (by kernel_rfl) (by kernel_rfl) (by kernel_rfl) true (H_mc.out)) ?_
                  refine held_free 47 (.bool true) rfl (by kernel_rfl) (by kernel_rfl) (by kernel_rfl) (by kernel_rfl) B1 (fun _ _ => by kernel_rfl) ?_
                  refine held_free 48 (.bool true) rfl (by kernel_rfl) (by kernel_rfl) (by kernel_rfl) (by kernel_rfl) B1 (fun _ _ => by kernel_rfl) ?_
                  refine held_end (by kernel_rfl) ?_
                  go_wp2_with fail
                  rw [HMM.out]
                  exact ret_slot 2 (.bool true) (by kernel_rfl) (by kernel_rfl) (by kernel_rfl) ⟨rfl, by have q := HBV.out.trans (B1.mono HBV.out.size); first | exact q | (rw [HB0.out]; exact q)⟩
                · have H_i0 := Lib.hid (show decide (0 ≤ id) = true from decide_eq_true h_i0)
                  have H_i1 := Lib.hid (show decide (id ≤ 255) = true from decide_eq_true h_i1)
                  have H_s4 := Lib.hid (show decide ((ip.size : Int) = 4) = false from decide_eq_false h_s4)
                  have H_s16 := Lib.hid (show decide ((ip.size : Int) = 16) = true from decide_eq_true h_s16)
                  have H_p0 := Lib.hid (show decide (0 ≤ port) = true from decide_eq_true h_p0)
                  have H_p1 := Lib.hid (show decide (port ≤ 65535) = true from decide_eq_true h_p1)
                  have H_pz := Lib.hid (show decide (port = 0) = true from decide_eq_true h_pz)
                  have H_mc := Lib.hid (show decide ((mac.size : Int) = (macOf echo : Int)) = false from decide_eq_false h_mc)
                  have HX := Lib.hid hx0
                  have HMM := Lib.hid (show M = false from hM.trans (decide_eq_false fun m => h_mc (by have q : mac.size = macOf echo := m.2.2.2.2; omega)))
                  have HB0 := Lib.hid hb0
                  have HVE := Lib.hid hV
                  clear hx0 hb0 hV hM h_i0 h_i1 h_s4 h_s16 h_p0 h_p1 h_pz h_mc
                  go_enter Try.func22, Try.ntmps22
                  go_upto_region 1 with fail
                  rw [← HVE.out, ← HB0.out]
                  clear HVE
                  have B0 : Below V.heap.size V V.drew := (Below.refl _ V).drew
                  refine held_start (fun W => Below V.heap.size V W) (by kernel_rfl) (n := 49) rfl ?_
                  obtain ⟨W0, hW0⟩ : ∃ W0, W0 = V.drew := ⟨_, rfl⟩
                  rw [← hW0] at B0 ⊢
                  clear hW0
                  refine held_free 0 (.pointer (some ⟨b0, 1, none⟩)) rfl (by kernel_rfl) (by kernel_rfl) (by kernel_rfl) (by kernel_rfl) B0 (fun _ _ => ex_field (v := .pointer (some ⟨b0, 0, none⟩)) 23 (.tmp 1) 1 (by kernel_rfl) (by kernel_rfl) (by kernel_rfl)) ?_
                  refine held_free 1 (.int .i64 id) rfl (by kernel_rfl) (by kernel_rfl) (by kernel_rfl) (by kernel_rfl) B0 (fun W b => ex_load 3 (.tmp 3) (by kernel_rfl) ⟨b0, 1, none⟩ (by kernel_rfl) (by kernel_rfl) ((HX.out.below b HX.out.lt).cell 1)) ?_
                  refine held_free 2 (.bool true) rfl (by kernel_rfl) (by kernel_rfl) (by kernel_rfl) (by kernel_rfl) B0 (fun _ _ => ex_intleb .i64 3 3 (.const (.int .i64 0)) (.tmp 4) (by kernel_rfl) (0) (id) (by kernel_rfl) (by kernel_rfl) (by kernel_rfl) true (H_i0.out)) ?_
                  refine held_free 3 (.bool true) rfl (by kernel_rfl) (by kernel_rfl) (by kernel_rfl) (by kernel_rfl) B0 (fun _ _ => by kernel_rfl) ?_
                  refine held_free 4 (.pointer (some ⟨b0, 1, none⟩)) rfl (by kernel_rfl) (by kernel_rfl) (by kernel_rfl) (by kernel_rfl) B0 (fun _ _ => ex_field (v := .pointer (some ⟨b0, 0, none⟩)) 23 (.tmp 1) 1 (by kernel_rfl) (by kernel_rfl) (by kernel_rfl)) ?_
                  refine held_free 5 (.int .i64 id) rfl (by kernel_rfl) (by kernel_rfl) (by kernel_rfl) (by kernel_rfl) B0 (fun W b => ex_load 3 (.tmp 7) (by kernel_rfl) ⟨b0, 1, none⟩ (by kernel_rfl) (by kernel_rfl) ((HX.out.below b HX.out.lt).cell 1)) ?_
                  refine held_free 6 (.bool true) rfl (by kernel_rfl) (by kernel_rfl) (by kernel_rfl) (by kernel_rfl) B0 (fun _ _ => ex_intleb .i64 3 3 (.tmp 8) (.const (.int .i64 255)) (by kernel_rfl) (id) (255) (by kernel_rfl) (by kernel_rfl) (by kernel_rfl) true (H_i1.out)) ?_
                  refine held_free 7 (.bool true) rfl (by kernel_rfl) (by kernel_rfl) (by kernel_rfl) (by kernel_rfl) B0 (fun _ _ => by kernel_rfl) ?_
                  refine held_free 8 (.bool true) rfl (by kernel_rfl) (by kernel_rfl) (by kernel_rfl) (by kernel_rfl) B0 (fun _ _ => by kernel_rfl) ?_
                  refine held_free 9 (.pointer (some ⟨b0, 2, none⟩)) rfl (by kernel_rfl) (by kernel_rfl) (by kernel_rfl) (by kernel_rfl) B0 (fun _ _ => ex_field (v := .pointer (some ⟨b0, 0, none⟩)) 23 (.tmp 1) 2 (by kernel_rfl) (by kernel_rfl) (by kernel_rfl)) ?_
                  refine held_free 10 (.string ip) rfl (by kernel_rfl) (by kernel_rfl) (by kernel_rfl) (by kernel_rfl) B0 (fun W b => ex_load 9 (.tmp 12) (by kernel_rfl) ⟨b0, 2, none⟩ (by kernel_rfl) (by kernel_rfl) ((HX.out.below b HX.out.lt).cell 2)) ?_
                  refine held_free 11 (.int .i64 (ip.size : Int)) rfl (by kernel_rfl) (by kernel_rfl) (by kernel_rfl) (by kernel_rfl) B0 (fun _ _ => by kernel_rfl) ?_
                  refine held_free 12 (.bool false) rfl (by kernel_rfl) (by kernel_rfl) (by kernel_rfl) (by kernel_rfl) B0 (fun _ _ => ex_inteqb .i64 3 3 (.tmp 14) (.const (.int .i64 4)) (by kernel_rfl) ((ip.size : Int)) (4) (by kernel_rfl) (by kernel_rfl) (by kernel_rfl) false (H_s4.out)) ?_
                  refine held_free 13 (.bool false) rfl (by kernel_rfl) (by kernel_rfl) (by kernel_rfl) (by kernel_rfl) B0 (fun _ _ => by kernel_rfl) ?_
                  refine held_free 14 (.pointer (some ⟨b0, 2, none⟩)) rfl (by kernel_rfl) (by kernel_rfl) (by kernel_rfl) (by kernel_rfl) B0 (fun _ _ => ex_field (v := .pointer (some ⟨b0, 0, none⟩)) 23 (.tmp 1) 2 (by kernel_rfl) (by kernel_rfl) (by kernel_rfl)) ?_
                  refine held_free 15 (.string ip) rfl (by kernel_rfl) (by kernel_rfl) (by kernel_rfl) (by kernel_rfl) B0 (fun W b => ex_load 9 (.tmp 17) (by kernel_rfl) ⟨b0, 2, none⟩ (by kernel_rfl) (by kernel_rfl) ((HX.out.below b HX.out.lt).cell 2)) ?_
                  refine held_free 16 (.int .i64 (ip.size : Int)) rfl (by kernel_rfl) (by kernel_rfl) (by kernel_rfl) (by kernel_rfl) B0 (fun _ _ => by kernel_rfl) ?_
                  refine held_free 17 (.bool true) rfl (by kernel_rfl) (by kernel_rfl) (by kernel_rfl) (by kernel_rfl) B0 (fun _ _ => ex_inteqb .i64 3 3 (.tmp 19) (.const (.int .i64 16)) (by kernel_rfl) ((ip.size : Int)) (16) (by kernel_rfl) (by kernel_rfl) (by kernel_rfl) true (H_s16.out)) ?_
                  refine held_free 18 (.bool true) rfl (by kernel_rfl) (by kernel_rfl) (by kernel_rfl) (by kernel_rfl) B0 (fun _ _ => by kernel_rfl) ?_
                  refine held_free 19 (.bool true) rfl (by kernel_rfl) (by kernel_rfl) (by kernel_rfl) (by kernel_rfl) B0 (fun _ _ => by kernel_rfl) ?_
                  refine held_free 20 (.bool true) rfl (by kernel_rfl) (by kernel_rfl) (by kernel_rfl) (by kernel_rfl) B0 (fun _ _ => by kernel_rfl) ?_
                  refine held_free 21 (.pointer (some ⟨b0, 4, none⟩)) rfl (by kernel_rfl) (by kernel_rfl) (by kernel_rfl) (by kernel_rfl) B0 (fun _ _ => ex_field (v := .pointer (some ⟨b0, 0, none⟩)) 23 (.tmp 1) 4 (by kernel_rfl) (by kernel_rfl) (by kernel_rfl)) ?_
                  refine held_free 22 (.int .i64 port) rfl (by kernel_rfl) (by kernel_rfl) (by kernel_rfl) (by kernel_rfl) B0 (fun W b => ex_load 3 (.tmp 24) (by kernel_rfl) ⟨b0, 4, none⟩ (by kernel_rfl) (by kernel_rfl) ((HX.out.below b HX.out.lt).cell 4)) ?_
                  refine held_free 23 (.bool true) rfl (by kernel_rfl) (by kernel_rfl) (by kernel_rfl) (by kernel_rfl) B0 (fun _ _ => ex_intleb .i64 3 3 (.const (.int .i64 0)) (.tmp 25) (by kernel_rfl) (0) (port) (by kernel_rfl) (by kernel_rfl) (by kernel_rfl) true (H_p0.out)) ?_
                  refine held_free 24 (.bool true) rfl (by kernel_rfl) (by kernel_rfl) (by kernel_rfl) (by kernel_rfl) B0 (fun _ _ => by kernel_rfl) ?_
                  refine held_free 25 (.bool true) rfl (by kernel_rfl) (by kernel_rfl) (by kernel_rfl) (by kernel_rfl) B0 (fun _ _ => by kernel_rfl) ?_
                  refine held_free 26 (.pointer (some ⟨b0, 4, none⟩)) rfl (by kernel_rfl) (by kernel_rfl) (by kernel_rfl) (by kernel_rfl) B0 (fun _ _ => ex_field (v := .pointer (some ⟨b0, 0, none⟩)) 23 (.tmp 1) 4 (by kernel_rfl) (by kernel_rfl) (by kernel_rfl)) ?_
                  refine held_free 27 (.int .i64 port) rfl (by kernel_rfl) (by kernel_rfl) (by kernel_rfl) (by kernel_rfl) B0 (fun W b => ex_load 3 (.tmp 29) (by kernel_rfl) ⟨b0, 4, none⟩ (by kernel_rfl) (by kernel_rfl) ((HX.out.below b HX.out.lt).cell 4)) ?_
                  refine held_free 28 (.bool true) rfl (by kernel_rfl) (by kernel_rfl) (by kernel_rfl) (by kernel_rfl) B0 (fun _ _ => ex_intleb .i64 3 3 (.tmp 30) (.const (.int .i64 65535)) (by kernel_rfl) (port) (65535) (by kernel_rfl) (by kernel_rfl) (by kernel_rfl) true (H_p1.out)) ?_
                  refine held_free 29 (.bool true) rfl (by kernel_rfl) (by kernel_rfl) (by kernel_rfl) (by kernel_rfl) B0 (fun _ _ => by kernel_rfl) ?_
                  refine held_free 30 (.bool true) rfl (by kernel_rfl) (by kernel_rfl) (by kernel_rfl) (by kernel_rfl) B0 (fun _ _ => by kernel_rfl) ?_
                  refine held_free 31 (.pointer (some ⟨b0, 3, none⟩)) rfl (by kernel_rfl) (by kernel_rfl) (by kernel_rfl) (by kernel_rfl) B0 (fun _ _ => ex_field (v := .pointer (some ⟨b0, 0, none⟩)) 23 (.tmp 1) 3 (by kernel_rfl) (by kernel_rfl) (by kernel_rfl)) ?_
                  refine held_free 32 (.bool false) rfl (by kernel_rfl) (by kernel_rfl) (by kernel_rfl) (by kernel_rfl) B0 (fun W b => ex_load 4 (.tmp 34) (by kernel_rfl) ⟨b0, 3, none⟩ (by kernel_rfl) (by kernel_rfl) ((HX.out.below b HX.out.lt).cell 3)) ?_
                  refine held_free 33 (.bool false) rfl (by kernel_rfl) (by kernel_rfl) (by kernel_rfl) (by kernel_rfl) B0 (fun _ _ => by kernel_rfl) ?_
                  refine held_free 34 (.pointer (some ⟨b0, 4, none⟩)) rfl (by kernel_rfl) (by kernel_rfl) (by kernel_rfl) (by kernel_rfl) B0 (fun _ _ => ex_field (v := .pointer (some ⟨b0, 0, none⟩)) 23 (.tmp 1) 4 (by kernel_rfl) (by kernel_rfl) (by kernel_rfl)) ?_
                  refine held_free 35 (.int .i64 port) rfl (by kernel_rfl) (by kernel_rfl) (by kernel_rfl) (by kernel_rfl) B0 (fun W b => ex_load 3 (.tmp 37) (by kernel_rfl) ⟨b0, 4, none⟩ (by kernel_rfl) (by kernel_rfl) ((HX.out.below b HX.out.lt).cell 4)) ?_
                  refine held_free 36 (.bool true) rfl (by kernel_rfl) (by kernel_rfl) (by kernel_rfl) (by kernel_rfl) B0 (fun _ _ => ex_inteqb .i64 3 3 (.tmp 38) (.const (.int .i64 0)) (by kernel_rfl) (port) (0) (by kernel_rfl) (by kernel_rfl) (by kernel_rfl) true (H_pz.out)) ?_
                  refine held_free 37 (.bool true) rfl (by kernel_rfl) (by kernel_rfl) (by kernel_rfl) (by kernel_rfl) B0 (fun _ _ => by kernel_rfl) ?_
                  refine held_free 38 (.bool true) rfl (by kernel_rfl) (by kernel_rfl) (by kernel_rfl) (by kernel_rfl) B0 (fun _ _ => by kernel_rfl) ?_
                  refine held_free 39 (.bool true) rfl (by kernel_rfl) (by kernel_rfl) (by kernel_rfl) (by kernel_rfl) B0 (fun _ _ => by kernel_rfl) ?_
                  refine held_free 40 (.pointer (some ⟨b0, 5, none⟩)) rfl (by kernel_rfl) (by kernel_rfl) (by kernel_rfl) (by kernel_rfl) B0 (fun _ _ => ex_field (v := .pointer (some ⟨b0, 0, none⟩)) 23 (.tmp 1) 5 (by kernel_rfl) (by kernel_rfl) (by kernel_rfl)) ?_
                  refine held_free 41 (.string mac) rfl (by kernel_rfl) (by kernel_rfl) (by kernel_rfl) (by kernel_rfl) B0 (fun W b => ex_load 9 (.tmp 43) (by kernel_rfl) ⟨b0, 5, none⟩ (by kernel_rfl) (by kernel_rfl) ((HX.out.below b HX.out.lt).cell 5)) ?_
                  refine held_free 42 (.int .i64 (mac.size : Int)) rfl (by kernel_rfl) (by kernel_rfl) (by kernel_rfl) (by kernel_rfl) B0 (fun _ _ => by kernel_rfl) ?_
                  refine held_free 43 (.pointer (some ⟨b0, 0, none⟩)) rfl (by kernel_rfl) (by kernel_rfl) (by kernel_rfl) (by kernel_rfl) B0 (fun _ _ => ex_field (v := .pointer (some ⟨b0, 0, none⟩)) 23 (.tmp 1) 0 (by kernel_rfl) (by kernel_rfl) (by kernel_rfl)) ?_
                  refine held_free 44 (.bool echo) rfl (by kernel_rfl) (by kernel_rfl) (by kernel_rfl) (by kernel_rfl) B0 (fun W b => ex_load 4 (.tmp 46) (by kernel_rfl) ⟨b0, 0, none⟩ (by kernel_rfl) (by kernel_rfl) ((HX.out.below b HX.out.lt).cell 0)) ?_
                  refine held_call 45 rfl (by kernel_rfl) (by kernel_rfl) (by kernel_rfl) (macSizeOf_any echo _) (fun w' h => bel_in B0 h) ?_
                  intro W1 hW1
                  have B1 := bel_in B0 hW1
                  clear hW1 B0
                  refine held_free 46 (.bool false) rfl (by kernel_rfl) (by kernel_rfl) (by kernel_rfl) (by kernel_rfl) B1 (fun _ _ => ex_inteqb .i64 3 3 (.tmp 45) (.tmp 48) (by kernel_rfl) ((mac.size : Int)) ((macOf echo : Int)) (by kernel_rfl) (by kernel_rfl) (by kernel_rfl) false (H_mc.out)) ?_
                  refine held_free 47 (.bool false) rfl (by kernel_rfl) (by kernel_rfl) (by kernel_rfl) (by kernel_rfl) B1 (fun _ _ => by kernel_rfl) ?_
                  refine held_free 48 (.bool false) rfl (by kernel_rfl) (by kernel_rfl) (by kernel_rfl) (by kernel_rfl) B1 (fun _ _ => by kernel_rfl) ?_
                  refine held_end (by kernel_rfl) ?_
                  go_wp2_with fail
                  rw [HMM.out]
                  exact ret_slot 2 (.bool false) (by kernel_rfl) (by kernel_rfl) (by kernel_rfl) ⟨rfl, by have q := HBV.out.trans (B1.mono HBV.out.size); first | exact q | (rw [HB0.out]; exact q)⟩
              · have H_i0 := Lib.hid (show decide (0 ≤ id) = true from decide_eq_true h_i0)
                have H_i1 := Lib.hid (show decide (id ≤ 255) = true from decide_eq_true h_i1)
                have H_s4 := Lib.hid (show decide ((ip.size : Int) = 4) = false from decide_eq_false h_s4)
                have H_s16 := Lib.hid (show decide ((ip.size : Int) = 16) = true from decide_eq_true h_s16)
                have H_p0 := Lib.hid (show decide (0 ≤ port) = true from decide_eq_true h_p0)
                have H_p1 := Lib.hid (show decide (port ≤ 65535) = true from decide_eq_true h_p1)
                have H_pz := Lib.hid (show decide (port = 0) = false from decide_eq_false h_pz)
                have HX := Lib.hid hx0
                have HMM := Lib.hid (show M = false from hM.trans (decide_eq_false fun m => by have q : (false = true) ∨ port = 0 := m.2.2.2.1; rcases q with q | q; cases q; exact h_pz q))
                have HB0 := Lib.hid hb0
                have HVE := Lib.hid hV
                clear hx0 hb0 hV hM h_i0 h_i1 h_s4 h_s16 h_p0 h_p1 h_pz
                go_enter Try.func22, Try.ntmps22
                go_upto_region 1 with fail
                rw [← HVE.out, ← HB0.out]
                clear HVE
                have B0 : Below V.heap.size V V.drew := (Below.refl _ V).drew
                refine held_start (fun W => Below V.heap.size V W) (by kernel_rfl) (n := 49) rfl ?_
                obtain ⟨W0, hW0⟩ : ∃ W0, W0 = V.drew := ⟨_, rfl⟩
                rw [← hW0] at B0 ⊢
                clear hW0
                refine held_free 0 (.pointer (some ⟨b0, 1, none⟩)) rfl (by kernel_rfl) (by kernel_rfl) (by kernel_rfl) (by kernel_rfl) B0 (fun _ _ => ex_field (v := .pointer (some ⟨b0, 0, none⟩)) 23 (.tmp 1) 1 (by kernel_rfl) (by kernel_rfl) (by kernel_rfl)) ?_
                refine held_free 1 (.int .i64 id) rfl (by kernel_rfl) (by kernel_rfl) (by kernel_rfl) (by kernel_rfl) B0 (fun W b => ex_load 3 (.tmp 3) (by kernel_rfl) ⟨b0, 1, none⟩ (by kernel_rfl) (by kernel_rfl) ((HX.out.below b HX.out.lt).cell 1)) ?_
                refine held_free 2 (.bool true) rfl (by kernel_rfl) (by kernel_rfl) (by kernel_rfl) (by kernel_rfl) B0 (fun _ _ => ex_intleb .i64 3 3 (.const (.int .i64 0)) (.tmp 4) (by kernel_rfl) (0) (id) (by kernel_rfl) (by kernel_rfl) (by kernel_rfl) true (H_i0.out)) ?_
                refine held_free 3 (.bool true) rfl (by kernel_rfl) (by kernel_rfl) (by kernel_rfl) (by kernel_rfl) B0 (fun _ _ => by kernel_rfl) ?_
                refine held_free 4 (.pointer (some ⟨b0, 1, none⟩)) rfl (by kernel_rfl) (by kernel_rfl) (by kernel_rfl) (by kernel_rfl) B0 (fun _ _ => ex_field (v := .pointer (some ⟨b0, 0, none⟩)) 23 (.tmp 1) 1 (by kernel_rfl) (by kernel_rfl) (by kernel_rfl)) ?_
                refine held_free 5 (.int .i64 id) rfl (by kernel_rfl) (by kernel_rfl) (by kernel_rfl) (by kernel_rfl) B0 (fun W b => ex_load 3 (.tmp 7) (by kernel_rfl) ⟨b0, 1, none⟩ (by kernel_rfl) (by kernel_rfl) ((HX.out.below b HX.out.lt).cell 1)) ?_
                refine held_free 6 (.bool true) rfl (by kernel_rfl) (by kernel_rfl) (by kernel_rfl) (by kernel_rfl) B0 (fun _ _ => ex_intleb .i64 3 3 (.tmp 8) (.const (.int .i64 255)) (by kernel_rfl) (id) (255) (by kernel_rfl) (by kernel_rfl) (by kernel_rfl) true (H_i1.out)) ?_
                refine held_free 7 (.bool true) rfl (by kernel_rfl) (by kernel_rfl) (by kernel_rfl) (by kernel_rfl) B0 (fun _ _ => by kernel_rfl) ?_
                refine held_free 8 (.bool true) rfl (by kernel_rfl) (by kernel_rfl) (by kernel_rfl) (by kernel_rfl) B0 (fun _ _ => by kernel_rfl) ?_
                refine held_free 9 (.pointer (some ⟨b0, 2, none⟩)) rfl (by kernel_rfl) (by kernel_rfl) (by kernel_rfl) (by kernel_rfl) B0 (fun _ _ => ex_field (v := .pointer (some ⟨b0, 0, none⟩)) 23 (.tmp 1) 2 (by kernel_rfl) (by kernel_rfl) (by kernel_rfl)) ?_
                refine held_free 10 (.string ip) rfl (by kernel_rfl) (by kernel_rfl) (by kernel_rfl) (by kernel_rfl) B0 (fun W b => ex_load 9 (.tmp 12) (by kernel_rfl) ⟨b0, 2, none⟩ (by kernel_rfl) (by kernel_rfl) ((HX.out.below b HX.out.lt).cell 2)) ?_
                refine held_free 11 (.int .i64 (ip.size : Int)) rfl (by kernel_rfl) (by kernel_rfl) (by kernel_rfl) (by kernel_rfl) B0 (fun _ _ => by kernel_rfl) ?_
                refine held_free 12 (.bool false) rfl (by kernel_rfl) (by kernel_rfl) (by kernel_rfl) (by kernel_rfl) B0 (fun _ _ => ex_inteqb .i64 3 3 (.tmp 14) (.const (.int .i64 4)) (by kernel_rfl) ((ip.size : Int)) (4) (by kernel_rfl) (by kernel_rfl) (by kernel_rfl) false (H_s4.out)) ?_
                refine held_free 13 (.bool false) rfl (by kernel_rfl) (by kernel_rfl) (by kernel_rfl) (by kernel_rfl) B0 (fun _ _ => by kernel_rfl) ?_
                refine held_free 14 (.pointer (some ⟨b0, 2, none⟩)) rfl (by kernel_rfl) (by kernel_rfl) (by kernel_rfl) (by kernel_rfl) B0 (fun _ _ => ex_field (v := .pointer (some ⟨b0, 0, none⟩)) 23 (.tmp 1) 2 (by kernel_rfl) (by kernel_rfl) (by kernel_rfl)) ?_
                refine held_free 15 (.string ip) rfl (by kernel_rfl) (by kernel_rfl) (by kernel_rfl) (by kernel_rfl) B0 (fun W b => ex_load 9 (.tmp 17) (by kernel_rfl) ⟨b0, 2, none⟩ (by kernel_rfl) (by kernel_rfl) ((HX.out.below b HX.out.lt).cell 2)) ?_
                refine held_free 16 (.int .i64 (ip.size : Int)) rfl (by kernel_rfl) (by kernel_rfl) (by kernel_rfl) (by kernel_rfl) B0 (fun _ _ => by kernel_rfl) ?_
                refine held_free 17 (.bool true) rfl (by kernel_rfl) (by kernel_rfl) (by kernel_rfl) (by kernel_rfl) B0 (fun _ _ => ex_inteqb .i64 3 3 (.tmp 19) (.const (.int .i64 16)) (by kernel_rfl) ((ip.size : Int)) (16) (by kernel_rfl) (by kernel_rfl) (by kernel_rfl) true (H_s16.out)) ?_
                refine held_free 18 (.bool true) rfl (by kernel_rfl) (by kernel_rfl) (by kernel_rfl) (by kernel_rfl) B0 (fun _ _ => by kernel_rfl) ?_
                refine held_free 19 (.bool true) rfl (by kernel_rfl) (by kernel_rfl) (by kernel_rfl) (by kernel_rfl) B0 (fun _ _ => by kernel_rfl) ?_
                refine held_free 20 (.bool true) rfl (by kernel_rfl) (by kernel_rfl) (by kernel_rfl) (by kernel_rfl) B0 (fun _ _ => by kernel_rfl) ?_
                refine held_free 21 (.pointer (some ⟨b0, 4, none⟩)) rfl (by kernel_rfl) (by kernel_rfl) (by kernel_rfl) (by kernel_rfl) B0 (fun _ _ => ex_field (v := .pointer (some ⟨b0, 0, none⟩)) 23 (.tmp 1) 4 (by kernel_rfl) (by kernel_rfl) (by kernel_rfl)) ?_
                refine held_free 22 (.int .i64 port) rfl (by kernel_rfl) (by kernel_rfl) (by kernel_rfl) (by kernel_rfl) B0 (fun W b => ex_load 3 (.tmp 24) (by kernel_rfl) ⟨b0, 4, none⟩ (by kernel_rfl) (by kernel_rfl) ((HX.out.below b HX.out.lt).cell 4)) ?_
                refine held_free 23 (.bool true) rfl (by kernel_rfl) (by kernel_rfl) (by kernel_rfl) (by kernel_rfl) B0 (fun _ _ => ex_intleb .i64 3 3 (.const (.int .i64 0)) (.tmp 25) (by kernel_rfl) (0) (port) (by kernel_rfl) (by kernel_rfl) (by kernel_rfl) true (H_p0.out)) ?_
                refine held_free 24 (.bool true) rfl (by kernel_rfl) (by kernel_rfl) (by kernel_rfl) (by kernel_rfl) B0 (fun _ _ => by kernel_rfl) ?_
                refine held_free 25 (.bool true) rfl (by kernel_rfl) (by kernel_rfl) (by kernel_rfl) (by kernel_rfl) B0 (fun _ _ => by kernel_rfl) ?_
                refine held_free 26 (.pointer (some ⟨b0, 4, none⟩)) rfl (by kernel_rfl) (by kernel_rfl) (by kernel_rfl) (by kernel_rfl) B0 (fun _ _ => ex_field (v := .pointer (some ⟨b0, 0, none⟩)) 23 (.tmp 1) 4 (by kernel_rfl) (by kernel_rfl) (by kernel_rfl)) ?_
                refine held_free 27 (.int .i64 port) rfl (by kernel_rfl) (by kernel_rfl) (by kernel_rfl) (by kernel_rfl) B0 (fun W b => ex_load 3 (.tmp 29) (by kernel_rfl) ⟨b0, 4, none⟩ (by kernel_rfl) (by kernel_rfl) ((HX.out.below b HX.out.lt).cell 4)) ?_
                refine held_free 28 (.bool true) rfl (by kernel_rfl) (by kernel_rfl) (by kernel_rfl) (by kernel_rfl) B0 (fun _ _ => ex_intleb .i64 3 3 (.tmp 30) (.const (.int .i64 65535)) (by kernel_rfl) (port) (65535) (by kernel_rfl) (by kernel_rfl) (by kernel_rfl) true (H_p1.out)) ?_
                refine held_free 29 (.bool true) rfl (by kernel_rfl) (by kernel_rfl) (by kernel_rfl) (by kernel_rfl) B0 (fun _ _ => by kernel_rfl) ?_
                refine held_free 30 (.bool true) rfl (by kernel_rfl) (by kernel_rfl) (by kernel_rfl) (by kernel_rfl) B0 (fun _ _ => by kernel_rfl) ?_
                refine held_free 31 (.pointer (some ⟨b0, 3, none⟩)) rfl (by kernel_rfl) (by kernel_rfl) (by kernel_rfl) (by kernel_rfl) B0 (fun _ _ => ex_field (v := .pointer (some ⟨b0, 0, none⟩)) 23 (.tmp 1) 3 (by kernel_rfl) (by kernel_rfl) (by kernel_rfl)) ?_
                refine held_free 32 (.bool false) rfl (by kernel_rfl) (by kernel_rfl) (by kernel_rfl) (by kernel_rfl) B0 (fun W b => ex_load 4 (.tmp 34) (by kernel_rfl) ⟨b0, 3, none⟩ (by kernel_rfl) (by kernel_rfl) ((HX.out.below b HX.out.lt).cell 3)) ?_
                refine held_free 33 (.bool false) rfl (by kernel_rfl) (by kernel_rfl) (by kernel_rfl) (by kernel_rfl) B0 (fun _ _ => by kernel_rfl) ?_
                refine held_free 34 (.pointer (some ⟨b0, 4, none⟩)) rfl (by kernel_rfl) (by kernel_rfl) (by kernel_rfl) (by kernel_rfl) B0 (fun _ _ => ex_field (v := .pointer (some ⟨b0, 0, none⟩)) 23 (.tmp 1) 4 (by kernel_rfl) (by kernel_rfl) (by kernel_rfl)) ?_
                refine held_free 35 (.int .i64 port) rfl (by kernel_rfl) (by kernel_rfl) (by kernel_rfl) (by kernel_rfl) B0 (fun W b => ex_load 3 (.tmp 37) (by kernel_rfl) ⟨b0, 4, none⟩ (by kernel_rfl) (by kernel_rfl) ((HX.out.below b HX.out.lt).cell 4)) ?_
                refine held_free 36 (.bool false) rfl (by kernel_rfl) (by kernel_rfl) (by kernel_rfl) (by kernel_rfl) B0 (fun _ _ => ex_inteqb .i64 3 3 (.tmp 38) (.const (.int .i64 0)) (by kernel_rfl) (port) (0) (by kernel_rfl) (by kernel_rfl) (by kernel_rfl) false (H_pz.out)) ?_
                refine held_free 37 (.bool false) rfl (by kernel_rfl) (by kernel_rfl) (by kernel_rfl) (by kernel_rfl) B0 (fun _ _ => by kernel_rfl) ?_
                refine held_free 38 (.bool false) rfl (by kernel_rfl) (by kernel_rfl) (by kernel_rfl) (by kernel_rfl) B0 (fun _ _ => by kernel_rfl) ?_
                refine held_free 39 (.bool false) rfl (by kernel_rfl) (by kernel_rfl) (by kernel_rfl) (by kernel_rfl) B0 (fun _ _ => by kernel_rfl) ?_
                refine held_pass 40 rfl (by kernel_rfl) (by kernel_rfl) (by kernel_rfl) (by kernel_rfl) B0 ?_
                refine held_pass 41 rfl (by kernel_rfl) (by kernel_rfl) (by kernel_rfl) (by kernel_rfl) B0 ?_
                refine held_pass 42 rfl (by kernel_rfl) (by kernel_rfl) (by kernel_rfl) (by kernel_rfl) B0 ?_
                refine held_pass 43 rfl (by kernel_rfl) (by kernel_rfl) (by kernel_rfl) (by kernel_rfl) B0 ?_
                refine held_pass 44 rfl (by kernel_rfl) (by kernel_rfl) (by kernel_rfl) (by kernel_rfl) B0 ?_
                refine held_pass 45 rfl (by kernel_rfl) (by kernel_rfl) (by kernel_rfl) (by kernel_rfl) B0 ?_
                refine held_pass 46 rfl (by kernel_rfl) (by kernel_rfl) (by kernel_rfl) (by kernel_rfl) B0 ?_
                refine held_free 47 (.bool false) rfl (by kernel_rfl) (by kernel_rfl) (by kernel_rfl) (by kernel_rfl) B0 (fun _ _ => by kernel_rfl) ?_
                refine held_free 48 (.bool false) rfl (by kernel_rfl) (by kernel_rfl) (by kernel_rfl) (by kernel_rfl) B0 (fun _ _ => by kernel_rfl) ?_
                refine held_end (by kernel_rfl) ?_
                go_wp2_with fail
                rw [HMM.out]
                exact ret_slot 2 (.bool false) (by kernel_rfl) (by kernel_rfl) (by kernel_rfl) ⟨rfl, by have q := HBV.out.trans (B0.mono HBV.out.size); first | exact q | (rw [HB0.out]; exact q)⟩
            · have H_i0 := Lib.hid (show decide (0 ≤ id) = true from decide_eq_true h_i0)
              have H_i1 := Lib.hid (show decide (id ≤ 255) = true from decide_eq_true h_i1)
              have H_s4 := Lib.hid (show decide ((ip.size : Int) = 4) = false from decide_eq_false h_s4)
              have H_s16 := Lib.hid (show decide ((ip.size : Int) = 16) = true from decide_eq_true h_s16)
              have H_p0 := Lib.hid (show decide (0 ≤ port) = true from decide_eq_true h_p0)
              have H_p1 := Lib.hid (show decide (port ≤ 65535) = false from decide_eq_false h_p1)
              have HX := Lib.hid hx0
              have HMM := Lib.hid (show M = false from hM.trans (decide_eq_false fun m => h_p1 m.2.2.1.2))
              have HB0 := Lib.hid hb0
              have HVE := Lib.hid hV
              clear hx0 hb0 hV hM h_i0 h_i1 h_s4 h_s16 h_p0 h_p1
              go_enter Try.func22, Try.ntmps22
              go_upto_region 1 with fail
              rw [← HVE.out, ← HB0.out]
              clear HVE
              have B0 : Below V.heap.size V V.drew := (Below.refl _ V).drew
              refine held_start (fun W => Below V.heap.size V W) (by kernel_rfl) (n := 49) rfl ?_
              obtain ⟨W0, hW0⟩ : ∃ W0, W0 = V.drew := ⟨_, rfl⟩
              rw [← hW0] at B0 ⊢
              clear hW0
              refine held_free 0 (.pointer (some ⟨b0, 1, none⟩)) rfl (by kernel_rfl) (by kernel_rfl) (by kernel_rfl) (by kernel_rfl) B0 (fun _ _ => ex_field (v := .pointer (some ⟨b0, 0, none⟩)) 23 (.tmp 1) 1 (by kernel_rfl) (by kernel_rfl) (by kernel_rfl)) ?_
              refine held_free 1 (.int .i64 id) rfl (by kernel_rfl) (by kernel_rfl) (by kernel_rfl) (by kernel_rfl) B0 (fun W b => ex_load 3 (.tmp 3) (by kernel_rfl) ⟨b0, 1, none⟩ (by kernel_rfl) (by kernel_rfl) ((HX.out.below b HX.out.lt).cell 1)) ?_
              refine held_free 2 (.bool true) rfl (by kernel_rfl) (by kernel_rfl) (by kernel_rfl) (by kernel_rfl) B0 (fun _ _ => ex_intleb .i64 3 3 (.const (.int .i64 0)) (.tmp 4) (by kernel_rfl) (0) (id) (by kernel_rfl) (by kernel_rfl) (by kernel_rfl) true (H_i0.out)) ?_
              refine held_free 3 (.bool true) rfl (by kernel_rfl) (by kernel_rfl) (by kernel_rfl) (by kernel_rfl) B0 (fun _ _ => by kernel_rfl) ?_
              refine held_free 4 (.pointer (some ⟨b0, 1, none⟩)) rfl (by kernel_rfl) (by kernel_rfl) (by kernel_rfl) (by kernel_rfl) B0 (fun _ _ => ex_field (v := .pointer (some ⟨b0, 0, none⟩)) 23 (.tmp 1) 1 (by kernel_rfl) (by kernel_rfl) (by kernel_rfl)) ?_
              refine held_free 5 (.int .i64 id) rfl (by kernel_rfl) (by kernel_rfl) (by kernel_rfl) (by kernel_rfl) B0 (fun W b => ex_load 3 (.tmp 7) (by kernel_rfl) ⟨b0, 1, none⟩ (by kernel_rfl) (by kernel_rfl) ((HX.out.below b HX.out.lt).cell 1)) ?_
              refine held_free 6 (.bool true) rfl (by kernel_rfl) (by kernel_rfl) (by kernel_rfl) (by kernel_rfl) B0 (fun _ _ => ex_intleb .i64 3 3 (.tmp 8) (.const (.int .i64 255)) (by kernel_rfl) (id) (255) (by kernel_rfl) (by kernel_rfl) (by kernel_rfl) true (H_i1.out)) ?_
              refine held_free 7 (.bool true) rfl (by kernel_rfl) (by kernel_rfl) (by kernel_rfl) (by kernel_rfl) B0 (fun _ _ => by kernel_rfl) ?_
              refine held_free 8 (.bool true) rfl (by kernel_rfl) (by kernel_rfl) (by kernel_rfl) (by kernel_rfl) B0 (fun _ _ => by kernel_rfl) ?_
              refine held_free 9 (.pointer (some ⟨b0, 2, none⟩)) rfl (by kernel_rfl) (by kernel_rfl) (by kernel_rfl) (by kernel_rfl) B0 (fun _ _ => ex_field (v := .pointer (some ⟨b0, 0, none⟩)) 23 (.tmp 1) 2 (by kernel_rfl) (by kernel_rfl) (by kernel_rfl)) ?_
              refine held_free 10 (.string ip) rfl (by kernel_rfl) (by kernel_rfl) (by kernel_rfl) (by kernel_rfl) B0 (fun W b => ex_load 9 (.tmp 12) (by kernel_rfl) ⟨b0, 2, none⟩ (by kernel_rfl) (by kernel_rfl) ((HX.out.below b HX.out.lt).cell 2)) ?_
              refine held_free 11 (.int .i64 (ip.size : Int)) rfl (by kernel_rfl) (by kernel_rfl) (by kernel_rfl) (by kernel_rfl) B0 (fun _ _ => by kernel_rfl) ?_
              refine held_free 12 (.bool false) rfl (by kernel_rfl) (by kernel_rfl) (by kernel_rfl) (by kernel_rfl) B0 (fun _ _ => ex_inteqb .i64 3 3 (.tmp 14) (.const (.int .i64 4)) (by kernel_rfl) ((ip.size : Int)) (4) (by kernel_rfl) (by kernel_rfl) (by kernel_rfl) false (H_s4.out)) ?_
              refine held_free 13 (.bool false) rfl (by kernel_rfl) (by kernel_rfl) (by kernel_rfl) (by kernel_rfl) B0 (fun _ _ => by kernel_rfl) ?_
              refine held_free 14 (.pointer (some ⟨b0, 2, none⟩)) rfl (by kernel_rfl) (by kernel_rfl) (by kernel_rfl) (by kernel_rfl) B0 (fun _ _ => ex_field (v := .pointer (some ⟨b0, 0, none⟩)) 23 (.tmp 1) 2 (by kernel_rfl) (by kernel_rfl) (by kernel_rfl)) ?_
              refine held_free 15 (.string ip) rfl (by kernel_rfl) (by kernel_rfl) (by kernel_rfl) (by kernel_rfl) B0 (fun W b => ex_load 9 (.tmp 17) (by kernel_rfl) ⟨b0, 2, none⟩ (by kernel_rfl) (by kernel_rfl) ((HX.out.below b HX.out.lt).cell 2)) ?_
              refine held_free 16 (.int .i64 (ip.size : Int)) rfl (by kernel_rfl) (by kernel_rfl) (by kernel_rfl) (by kernel_rfl) B0 (fun _ _ => by kernel_rfl) ?_
              refine held_free 17 (.bool true) rfl (by kernel_rfl) (by kernel_rfl) (by kernel_rfl) (by kernel_rfl) B0 (fun _ _ => ex_inteqb .i64 3 3 (.tmp 19) (.const (.int .i64 16)) (by kernel_rfl) ((ip.size : Int)) (16) (by kernel_rfl) (by kernel_rfl) (by kernel_rfl) true (H_s16.out)) ?_
              refine held_free 18 (.bool true) rfl (by kernel_rfl) (by kernel_rfl) (by kernel_rfl) (by kernel_rfl) B0 (fun _ _ => by kernel_rfl) ?_
              refine held_free 19 (.bool true) rfl (by kernel_rfl) (by kernel_rfl) (by kernel_rfl) (by kernel_rfl) B0 (fun _ _ => by kernel_rfl) ?_
              refine held_free 20 (.bool true) rfl (by kernel_rfl) (by kernel_rfl) (by kernel_rfl) (by kernel_rfl) B0 (fun _ _ => by kernel_rfl) ?_
              refine held_free 21 (.pointer (some ⟨b0, 4, none⟩)) rfl (by kernel_rfl) (by kernel_rfl) (by kernel_rfl) (by kernel_rfl) B0 (fun _ _ => ex_field (v := .pointer (some ⟨b0, 0, none⟩)) 23 (.tmp 1) 4 (by kernel_rfl) (by kernel_rfl) (by kernel_rfl)) ?_
              refine held_free 22 (.int .i64 port) rfl (by kernel_rfl) (by kernel_rfl) (by kernel_rfl) (by kernel_rfl) B0 (fun W b => ex_load 3 (.tmp 24) (by kernel_rfl) ⟨b0, 4, none⟩ (by kernel_rfl) (by kernel_rfl) ((HX.out.below b HX.out.lt).cell 4)) ?_
              refine held_free 23 (.bool true) rfl (by kernel_rfl) (by kernel_rfl) (by kernel_rfl) (by kernel_rfl) B0 (fun _ _ => ex_intleb .i64 3 3 (.const (.int .i64 0)) (.tmp 25) (by kernel_rfl) (0) (port) (by kernel_rfl) (by kernel_rfl) (by kernel_rfl) true (H_p0.out)) ?_
              refine held_free 24 (.bool true) rfl (by kernel_rfl) (by kernel_rfl) (by kernel_rfl) (by kernel_rfl) B0 (fun _ _ => by kernel_rfl) ?_
              refine held_free 25 (.bool true) rfl (by kernel_rfl) (by kernel_rfl) (by kernel_rfl) (by kernel_rfl) B0 (fun _ _ => by kernel_rfl) ?_
              refine held_free 26 (.pointer (some ⟨b0, 4, none⟩)) rfl (by kernel_rfl) (by kernel_rfl) (by kernel_rfl) (by kernel_rfl) B0 (fun _ _ => ex_field (v := .pointer (some ⟨b0, 0, none⟩)) 23 (.tmp 1) 4 (by kernel_rfl) (by kernel_rfl) (by kernel_rfl)) ?_
              refine held_free 27 (.int .i64 port) rfl (by kernel_rfl) (by kernel_rfl) (by kernel_rfl) (by kernel_rfl) B0 (fun W b => ex_load 3 (.tmp 29) (by kernel_rfl) ⟨b0, 4, none⟩ (by kernel_rfl) (by kernel_rfl) ((HX.out.below b HX.out.lt).cell 4)) ?_
              refine held_free 28 (.bool false) rfl (by kernel_rfl) (by kernel_rfl) (by kernel_rfl) (by kernel_rfl) B0 (fun _ _ => ex_intleb .i64 3 3 (.tmp 30) (.const (.int .i64 65535)) (by kernel_rfl) (port) (65535) (by kernel_rfl) (by kernel_rfl) (by kernel_rfl) false (H_p1.out)) ?_
              refine held_free 29 (.bool false) rfl (by kernel_rfl) (by kernel_rfl) (by kernel_rfl) (by kernel_rfl) B0 (fun _ _ => by kernel_rfl) ?_
              refine held_free 30 (.bool false) rfl (by kernel_rfl) (by kernel_rfl) (by kernel_rfl) (by kernel_rfl) B0 (fun _ _ => by kernel_rfl) ?_
              refine held_pass 31 rfl (by kernel_rfl) (by kernel_rfl) (by kernel_rfl) (by kernel_rfl) B0 ?_
              refine held_pass 32 rfl (by kernel_rfl) (by kernel_rfl) (by kernel_rfl) (by kernel_rfl) B0 ?_
              refine held_pass 33 rfl (by kernel_rfl) (by kernel_rfl) (by kernel_rfl) (by kernel_rfl) B0 ?_
              refine held_pass 34 rfl (by kernel_rfl) (by kernel_rfl) (by kernel_rfl) (by kernel_rfl) B0 ?_
              refine held_pass 35 rfl (by kernel_rfl) (by kernel_rfl) (by kernel_rfl) (by kernel_rfl) B0 ?_
              refine held_pass 36 rfl (by kernel_rfl) (by kernel_rfl) (by kernel_rfl) (by kernel_rfl) B0 ?_
              refine held_pass 37 rfl (by kernel_rfl) (by kernel_rfl) (by kernel_rfl) (by kernel_rfl) B0 ?_
              refine held_free 38 (.bool false) rfl (by kernel_rfl) (by kernel_rfl) (by kernel_rfl) (by kernel_rfl) B0 (fun _ _ => by kernel_rfl) ?_
              refine held_free 39 (.bool false) rfl (by kernel_rfl) (by kernel_rfl) (by kernel_rfl) (by kernel_rfl) B0 (fun _ _ => by kernel_rfl) ?_
              refine held_pass 40 rfl (by kernel_rfl) (by kernel_rfl) (by kernel_rfl) (by kernel_rfl) B0 ?_
              refine held_pass 41 rfl (by kernel_rfl) (by kernel_rfl) (by kernel_rfl) (by kernel_rfl) B0 ?_
              refine held_pass 42 rfl (by kernel_rfl) (by kernel_rfl) (by kernel_rfl) (by kernel_rfl) B0 ?_
              refine held_pass 43 rfl (by kernel_rfl) (by kernel_rfl) (by kernel_rfl) (by kernel_rfl) B0 ?_
              refine held_pass 44 rfl (by kernel_rfl) (by kernel_rfl) (by kernel_rfl) (by kernel_rfl) B0 ?_
              refine held_pass 45 rfl (by kernel_rfl) (by kernel_rfl) (by kernel_rfl) (by kernel_rfl) B0 ?_
              refine held_pass 46 rfl (by kernel_rfl) (by kernel_rfl) (by kernel_rfl) (by kernel_rfl) B0 ?_
              refine held_free 47 (.bool false) rfl (by kernel_rfl) (by kernel_rfl) (by kernel_rfl) (by kernel_rfl) B0 (fun _ _ => by kernel_rfl) ?_
              refine held_free 48 (.bool false) rfl (by kernel_rfl) (by kernel_rfl) (by kernel_rfl) (by kernel_rfl) B0 (fun _ _ => by kernel_rfl) ?_
              refine held_end (by kernel_rfl) ?_
              go_wp2_with fail
              rw [HMM.out]
              exact ret_slot 2 (.bool false) (by kernel_rfl) (by kernel_rfl) (by kernel_rfl) ⟨rfl, by have q := HBV.out.trans (B0.mono HBV.out.size); first | exact q | (rw [HB0.out]; exact q)⟩
          · have H_i0 := Lib.hid (show decide (0 ≤ id) = true from decide_eq_true h_i0)
            have H_i1 := Lib.hid (show decide (id ≤ 255) = true from decide_eq_true h_i1)
            have H_s4 := Lib.hid (show decide ((ip.size : Int) = 4) = false from decide_eq_false h_s4)
            have H_s16 := Lib.hid (show decide ((ip.size : Int) = 16) = true from decide_eq_true h_s16)
            have H_p0 := Lib.hid (show decide (0 ≤ port) = false from decide_eq_false h_p0)
            have HX := Lib.hid hx0
            have HMM := Lib.hid (show M = false from hM.trans (decide_eq_false fun m => h_p0 m.2.2.1.1))
            have HB0 := Lib.hid hb0
            have HVE := Lib.hid hV
            clear hx0 hb0 hV hM h_i0 h_i1 h_s4 h_s16 h_p0
            go_enter Try.func22, Try.ntmps22
            go_upto_region 1 with fail
            rw [← HVE.out, ← HB0.out]
            clear HVE
            have B0 : Below V.heap.size V V.drew := (Below.refl _ V).drew
            refine held_start (fun W => Below V.heap.size V W) (by kernel_rfl) (n := 49) rfl ?_
            obtain ⟨W0, hW0⟩ : ∃ W0, W0 = V.drew := ⟨_, rfl⟩
            rw [← hW0] at B0 ⊢
            clear hW0
            refine held_free 0 (.pointer (some ⟨b0, 1, none⟩)) rfl (by kernel_rfl) (by kernel_rfl) (by kernel_rfl) (by kernel_rfl) B0 (fun _ _ => ex_field (v := .pointer (some ⟨b0, 0, none⟩)) 23 (.tmp 1) 1 (by kernel_rfl) (by kernel_rfl) (by kernel_rfl)) ?_
            refine held_free 1 (.int .i64 id) rfl (by kernel_rfl) (by kernel_rfl) (by kernel_rfl) (by kernel_rfl) B0 (fun W b => ex_load 3 (.tmp 3) (by kernel_rfl) ⟨b0, 1, none⟩ (by kernel_rfl) (by kernel_rfl) ((HX.out.below b HX.out.lt).cell 1)) ?_
            refine held_free 2 (.bool true) rfl (by kernel_rfl) (by kernel_rfl) (by kernel_rfl) (by kernel_rfl) B0 (fun _ _ => ex_intleb .i64 3 3 (.const (.int .i64 0)) (.tmp 4) (by kernel_rfl) (0) (id) (by kernel_rfl) (by kernel_rfl) (by kernel_rfl) true (H_i0.out)) ?_
            refine held_free 3 (.bool true) rfl (by kernel_rfl) (by kernel_rfl) (by kernel_rfl) (by kernel_rfl) B0 (fun _ _ => by kernel_rfl) ?_
            refine held_free 4 (.pointer (some ⟨b0, 1, none⟩)) rfl (by kernel_rfl) (by kernel_rfl) (by kernel_rfl) (by kernel_rfl) B0 (fun _ _ => ex_field (v := .pointer (some ⟨b0, 0, none⟩)) 23 (.tmp 1) 1 (by kernel_rfl) (by kernel_rfl) (by kernel_rfl)) ?_
            refine held_free 5 (.int .i64 id) rfl (by kernel_rfl) (by kernel_rfl) (by kernel_rfl) (by kernel_rfl) B0 (fun W b => ex_load 3 (.tmp 7) (by kernel_rfl) ⟨b0, 1, none⟩ (by kernel_rfl) (by kernel_rfl) ((HX.out.below b HX.out.lt).cell 1)) ?_
            refine held_free 6 (.bool true) rfl (by kernel_rfl) (by kernel_rfl) (by kernel_rfl) (by kernel_rfl) B0 (fun _ _ => ex_intleb .i64 3 3 (.tmp 8) (.const (.int .i64 255)) (by kernel_rfl) (id) (255) (by kernel_rfl) (by kernel_rfl) (by kernel_rfl) true (H_i1.out)) ?_
            refine held_free 7 (.bool true) rfl (by kernel_rfl) (by kernel_rfl) (by kernel_rfl) (by kernel_rfl) B0 (fun _ _ => by kernel_rfl) ?_
            refine held_free 8 (.bool true) rfl (by kernel_rfl) (by kernel_rfl) (by kernel_rfl) (by kernel_rfl) B0 (fun _ _ => by kernel_rfl) ?_
            refine held_free 9 (.pointer (some ⟨b0, 2, none⟩)) rfl (by kernel_rfl) (by kernel_rfl) (by kernel_rfl) (by kernel_rfl) B0 (fun _ _ => ex_field (v := .pointer (some ⟨b0, 0, none⟩)) 23 (.tmp 1) 2 (by kernel_rfl) (by kernel_rfl) (by kernel_rfl)) ?_
            refine held_free 10 (.string ip) rfl (by kernel_rfl) (by kernel_rfl) (by kernel_rfl) (by kernel_rfl) B0 (fun W b => ex_load 9 (.tmp 12) (by kernel_rfl) ⟨b0, 2, none⟩ (by kernel_rfl) (by kernel_rfl) ((HX.out.below b HX.out.lt).cell 2)) ?_
            refine held_free 11 (.int .i64 (ip.size : Int)) rfl (by kernel_rfl) (by kernel_rfl) (by kernel_rfl) (by kernel_rfl) B0 (fun _ _ => by kernel_rfl) ?_
            refine held_free 12 (.bool false) rfl (by kernel_rfl) (by kernel_rfl) (by kernel_rfl) (by kernel_rfl) B0 (fun _ _ => ex_inteqb .i64 3 3 (.tmp 14) (.const (.int .i64 4)) (by kernel_rfl) ((ip.size : Int)) (4) (by kernel_rfl) (by kernel_rfl) (by kernel_rfl) false (H_s4.out)) ?_
            refine held_free 13 (.bool false) rfl (by kernel_rfl) (by kernel_rfl) (by kernel_rfl) (by kernel_rfl) B0 (fun _ _ => by kernel_rfl) ?_
            refine held_free 14 (.pointer (some ⟨b0, 2, none⟩)) rfl (by kernel_rfl) (by kernel_rfl) (by kernel_rfl) (by kernel_rfl) B0 (fun _ _ => ex_field (v := .pointer (some ⟨b0, 0, none⟩)) 23 (.tmp 1) 2 (by kernel_rfl) (by kernel_rfl) (by kernel_rfl)) ?_
            refine held_free 15 (.string ip) rfl (by kernel_rfl) (by kernel_rfl) (by kernel_rfl) (by kernel_rfl) B0 (fun W b => ex_load 9 (.tmp 17) (by kernel_rfl) ⟨b0, 2, none⟩ (by kernel_rfl) (by kernel_rfl) ((HX.out.below b HX.out.lt).cell 2)) ?_
            refine held_free 16 (.int .i64 (ip.size : Int)) rfl (by kernel_rfl) (by kernel_rfl) (by kernel_rfl) (by kernel_rfl) B0 (fun _ _ => by kernel_rfl) ?_
            refine held_free 17 (.bool true) rfl (by kernel_rfl) (by kernel_rfl) (by kernel_rfl) (by kernel_rfl) B0 (fun _ _ => ex_inteqb .i64 3 3 (.tmp 19) (.const (.int .i64 16)) (by kernel_rfl) ((ip.size : Int)) (16) (by kernel_rfl) (by kernel_rfl) (by kernel_rfl) true (H_s16.out)) ?_
            refine held_free 18 (.bool true) rfl (by kernel_rfl) (by kernel_rfl) (by kernel_rfl) (by kernel_rfl) B0 (fun _ _ => by kernel_rfl) ?_
            refine held_free 19 (.bool true) rfl (by kernel_rfl) (by kernel_rfl) (by kernel_rfl) (by kernel_rfl) B0 (fun _ _ => by kernel_rfl) ?_
            refine held_free 20 (.bool true) rfl (by kernel_rfl) (by kernel_rfl) (by kernel_rfl) (by kernel_rfl) B0 (fun _ _ => by kernel_rfl) ?_
            refine held_free 21 (.pointer (some ⟨b0, 4, none⟩)) rfl (by kernel_rfl) (by kernel_rfl) (by kernel_rfl) (by kernel_rfl) B0 (fun _ _ => ex_field (v := .pointer (some ⟨b0, 0, none⟩)) 23 (.tmp 1) 4 (by kernel_rfl) (by kernel_rfl) (by kernel_rfl)) ?_
            refine held_free 22 (.int .i64 port) rfl (by kernel_rfl) (by kernel_rfl) (by kernel_rfl) (by kernel_rfl) B0 (fun W b => ex_load 3 (.tmp 24) (by kernel_rfl) ⟨b0, 4, none⟩ (by kernel_rfl) (by kernel_rfl) ((HX.out.below b HX.out.lt).cell 4)) ?_
            refine held_free 23 (.bool false) rfl (by kernel_rfl) (by kernel_rfl) (by kernel_rfl) (by kernel_rfl) B0 (fun _ _ => ex_intleb .i64 3 3 (.const (.int .i64 0)) (.tmp 25) (by kernel_rfl) (0) (port) (by kernel_rfl) (by kernel_rfl) (by kernel_rfl) false (H_p0.out)) ?_
            refine held_free 24 (.bool false) rfl (by kernel_rfl) (by kernel_rfl) (by kernel_rfl) (by kernel_rfl) B0 (fun _ _ => by kernel_rfl) ?_
            refine held_free 25 (.bool false) rfl (by kernel_rfl) (by kernel_rfl) (by kernel_rfl) (by kernel_rfl) B0 (fun _ _ => by kernel_rfl) ?_
            refine held_pass 26 rfl (by kernel_rfl) (by kernel_rfl) (by kernel_rfl) (by kernel_rfl) B0 ?_
            refine held_pass 27 rfl (by kernel_rfl) (by kernel_rfl) (by kernel_rfl) (by kernel_rfl) B0 ?_
            refine held_pass 28 rfl (by kernel_rfl) (by kernel_rfl) (by kernel_rfl) (by kernel_rfl) B0 ?_
            refine held_free 29 (.bool false) rfl (by kernel_rfl) (by kernel_rfl) (by kernel_rfl) (by kernel_rfl) B0 (fun _ _ => by kernel_rfl) ?_
            refine held_free 30 (.bool false) rfl (by kernel_rfl) (by kernel_rfl) (by kernel_rfl) (by kernel_rfl) B0 (fun _ _ => by kernel_rfl) ?_
            refine held_pass 31 rfl (by kernel_rfl) (by kernel_rfl) (by kernel_rfl) (by kernel_rfl) B0 ?_
            refine held_pass 32 rfl (by kernel_rfl) (by kernel_rfl) (by kernel_rfl) (by kernel_rfl) B0 ?_
            refine held_pass 33 rfl (by kernel_rfl) (by kernel_rfl) (by kernel_rfl) (by kernel_rfl) B0 ?_
            refine held_pass 34 rfl (by kernel_rfl) (by kernel_rfl) (by kernel_rfl) (by kernel_rfl) B0 ?_
            refine held_pass 35 rfl (by kernel_rfl) (by kernel_rfl) (by kernel_rfl) (by kernel_rfl) B0 ?_
            refine held_pass 36 rfl (by kernel_rfl) (by kernel_rfl) (by kernel_rfl) (by kernel_rfl) B0 ?_
            refine held_pass 37 rfl (by kernel_rfl) (by kernel_rfl) (by kernel_rfl) (by kernel_rfl) B0 ?_
            refine held_free 38 (.bool false) rfl (by kernel_rfl) (by kernel_rfl) (by kernel_rfl) (by kernel_rfl) B0 (fun _ _ => by kernel_rfl) ?_
            refine held_free 39 (.bool false) rfl (by kernel_rfl) (by kernel_rfl) (by kernel_rfl) (by kernel_rfl) B0 (fun _ _ => by kernel_rfl) ?_
            refine held_pass 40 rfl (by kernel_rfl) (by kernel_rfl) (by kernel_rfl) (by kernel_rfl) B0 ?_
            refine held_pass 41 rfl (by kernel_rfl) (by kernel_rfl) (by kernel_rfl) (by kernel_rfl) B0 ?_
            refine held_pass 42 rfl (by kernel_rfl) (by kernel_rfl) (by kernel_rfl) (by kernel_rfl) B0 ?_
            refine held_pass 43 rfl (by kernel_rfl) (by kernel_rfl) (by kernel_rfl) (by kernel_rfl) B0 ?_
            refine held_pass 44 rfl (by kernel_rfl) (by kernel_rfl) (by kernel_rfl) (by kernel_rfl) B0 ?_
            refine held_pass 45 rfl (by kernel_rfl) (by kernel_rfl) (by kernel_rfl) (by kernel_rfl) B0 ?_
            refine held_pass 46 rfl (by kernel_rfl) (by kernel_rfl) (by kernel_rfl) (by kernel_rfl) B0 ?_
            refine held_free 47 (.bool false) rfl (by kernel_rfl) (by kernel_rfl) (by kernel_rfl) (by kernel_rfl) B0 (fun _ _ => by kernel_rfl) ?_
            refine held_free 48 (.bool false) rfl (by kernel_rfl) (by kernel_rfl) (by kernel_rfl) (by kernel_rfl) B0 (fun _ _ => by kernel_rfl) ?_
            refine held_end (by kernel_rfl) ?_
            go_wp2_with fail
            rw [HMM.out]
            exact ret_slot 2 (.bool false) (by kernel_rfl) (by kernel_rfl) (by kernel_rfl) ⟨rfl, by have q := HBV.out.trans (B0.mono HBV.out.size); first | exact q | (rw [HB0.out]; exact q)⟩
        · have H_i0 := Lib.hid (show decide (0 ≤ id) = true from decide_eq_true h_i0)
          have H_i1 := Lib.hid (show decide (id ≤ 255) = true from decide_eq_true h_i1)
          have H_s4 := Lib.hid (show decide ((ip.size : Int) = 4) = false from decide_eq_false h_s4)
          have H_s16 := Lib.hid (show decide ((ip.size : Int) = 16) = false from decide_eq_false h_s16)
          have HX := Lib.hid hx0
          have HMM := Lib.hid (show M = false from hM.trans (decide_eq_false fun m => by have q : ip.size = 4 ∨ ip.size = 16 := m.2.1; omega))
          have HB0 := Lib.hid hb0
          have HVE := Lib.hid hV
          clear hx0 hb0 hV hM h_i0 h_i1 h_s4 h_s16
          go_enter Try.func22, Try.ntmps22
          go_upto_region 1 with fail
          rw [← HVE.out, ← HB0.out]
          clear HVE
          have B0 : Below V.heap.size V V.drew := (Below.refl _ V).drew
          refine held_start (fun W => Below V.heap.size V W) (by kernel_rfl) (n := 49) rfl ?_
          obtain ⟨W0, hW0⟩ : ∃ W0, W0 = V.drew := ⟨_, rfl⟩
          rw [← hW0] at B0 ⊢
          clear hW0
          refine held_free 0 (.pointer (some ⟨b0, 1, none⟩)) rfl (by kernel_rfl) (by kernel_rfl) (by kernel_rfl) (by kernel_rfl) B0 (fun _ _ => ex_field (v := .pointer (some ⟨b0, 0, none⟩)) 23 (.tmp 1) 1 (by kernel_rfl) (by kernel_rfl) (by kernel_rfl)) ?_
          refine held_free 1 (.int .i64 id) rfl (by kernel_rfl) (by kernel_rfl) (by kernel_rfl) (by kernel_rfl) B0 (fun W b => ex_load 3 (.tmp 3) (by kernel_rfl) ⟨b0, 1, none⟩ (by kernel_rfl) (by kernel_rfl) ((HX.out.below b HX.out.lt).cell 1)) ?_
          refine held_free 2 (.bool true) rfl (by kernel_rfl) (by kernel_rfl) (by kernel_rfl) (by kernel_rfl) B0 (fun _ _ => ex_intleb .i64 3 3 (.const (.int .i64 0)) (.tmp 4) (by kernel_rfl) (0) (id) (by kernel_rfl) (by kernel_rfl) (by kernel_rfl) true (H_i0.out)) ?_
          refine held_free 3 (.bool true) rfl (by kernel_rfl) (by kernel_rfl) (by kernel_rfl) (by kernel_rfl) B0 (fun _ _ => by kernel_rfl) ?_
          refine held_free 4 (.pointer (some ⟨b0, 1, none⟩)) rfl (by kernel_rfl) (by kernel_rfl) (by kernel_rfl) (by kernel_rfl) B0 (fun _ _ => ex_field (v := .pointer (some ⟨b0, 0, none⟩)) 23 (.tmp 1) 1 (by kernel_rfl) (by kernel_rfl) (by kernel_rfl)) ?_
          refine held_free 5 (.int .i64 id) rfl (by kernel_rfl) (by kernel_rfl) (by kernel_rfl) (by kernel_rfl) B0 (fun W b => ex_load 3 (.tmp 7) (by kernel_rfl) ⟨b0, 1, none⟩ (by kernel_rfl) (by kernel_rfl) ((HX.out.below b HX.out.lt).cell 1)) ?_
          refine held_free 6 (.bool true) rfl (by kernel_rfl) (by kernel_rfl) (by kernel_rfl) (by kernel_rfl) B0 (fun _ _ => ex_intleb .i64 3 3 (.tmp 8) (.const (.int .i64 255)) (by kernel_rfl) (id) (255) (by kernel_rfl) (by kernel_rfl) (by kernel_rfl) true (H_i1.out)) ?_
          refine held_free 7 (.bool true) rfl (by kernel_rfl) (by kernel_rfl) (by kernel_rfl) (by kernel_rfl) B0 (fun _ _ => by kernel_rfl) ?_
          refine held_free 8 (.bool true) rfl (by kernel_rfl) (by kernel_rfl) (by kernel_rfl) (by kernel_rfl) B0 (fun _ _ => by kernel_rfl) ?_
          refine held_free 9 (.pointer (some ⟨b0, 2, none⟩)) rfl (by kernel_rfl) (by kernel_rfl) (by kernel_rfl) (by kernel_rfl) B0 (fun _ _ => ex_field (v := .pointer (some ⟨b0, 0, none⟩)) 23 (.tmp 1) 2 (by kernel_rfl) (by kernel_rfl) (by kernel_rfl)) ?_
          refine held_free 10 (.string ip) rfl (by kernel_rfl) (by kernel_rfl) (by kernel_rfl) (by kernel_rfl) B0 (fun W b => ex_load 9 (.tmp 12) (by kernel_rfl) ⟨b0, 2, none⟩ (by kernel_rfl) (by kernel_rfl) ((HX.out.below b HX.out.lt).cell 2)) ?_
          refine held_free 11 (.int .i64 (ip.size : Int)) rfl (by kernel_rfl) (by kernel_rfl) (by kernel_rfl) (by kernel_rfl) B0 (fun _ _ => by kernel_rfl) ?_
          refine held_free 12 (.bool false) rfl (by kernel_rfl) (by kernel_rfl) (by kernel_rfl) (by kernel_rfl) B0 (fun _ _ => ex_inteqb .i64 3 3 (.tmp 14) (.const (.int .i64 4)) (by kernel_rfl) ((ip.size : Int)) (4) (by kernel_rfl) (by kernel_rfl) (by kernel_rfl) false (H_s4.out)) ?_
          refine held_free 13 (.bool false) rfl (by kernel_rfl) (by kernel_rfl) (by kernel_rfl) (by kernel_rfl) B0 (fun _ _ => by kernel_rfl) ?_
          refine held_free 14 (.pointer (some ⟨b0, 2, none⟩)) rfl (by kernel_rfl) (by kernel_rfl) (by kernel_rfl) (by kernel_rfl) B0 (fun _ _ => ex_field (v := .pointer (some ⟨b0, 0, none⟩)) 23 (.tmp 1) 2 (by kernel_rfl) (by kernel_rfl) (by kernel_rfl)) ?_
          refine held_free 15 (.string ip) rfl (by kernel_rfl) (by kernel_rfl) (by kernel_rfl) (by kernel_rfl) B0 (fun W b => ex_load 9 (.tmp 17) (by kernel_rfl) ⟨b0, 2, none⟩ (by kernel_rfl) (by kernel_rfl) ((HX.out.below b HX.out.lt).cell 2)) ?_
          refine held_free 16 (.int .i64 (ip.size : Int)) rfl (by kernel_rfl) (by kernel_rfl) (by kernel_rfl) (by kernel_rfl) B0 (fun _ _ => by kernel_rfl) ?_
          refine held_free 17 (.bool false) rfl (by kernel_rfl) (by kernel_rfl) (by kernel_rfl) (by kernel_rfl) B0 (fun _ _ => ex_inteqb .i64 3 3 (.tmp 19) (.const (.int .i64 16)) (by kernel_rfl) ((ip.size : Int)) (16) (by kernel_rfl) (by kernel_rfl) (by kernel_rfl) false (H_s16.out)) ?_
          refine held_free 18 (.bool false) rfl (by kernel_rfl) (by kernel_rfl) (by kernel_rfl) (by kernel_rfl) B0 (fun _ _ => by kernel_rfl) ?_
          refine held_free 19 (.bool false) rfl (by kernel_rfl) (by kernel_rfl) (by kernel_rfl) (by kernel_rfl) B0 (fun _ _ => by kernel_rfl) ?_
          refine held_free 20 (.bool false) rfl (by kernel_rfl) (by kernel_rfl) (by kernel_rfl) (by kernel_rfl) B0 (fun _ _ => by kernel_rfl) ?_
          refine held_pass 21 rfl (by kernel_rfl) (by kernel_rfl) (by kernel_rfl) (by kernel_rfl) B0 ?_
          refine held_pass 22 rfl (by kernel_rfl) (by kernel_rfl) (by kernel_rfl) (by kernel_rfl) B0 ?_
          refine held_pass 23 rfl (by kernel_rfl) (by kernel_rfl) (by kernel_rfl) (by kernel_rfl) B0 ?_
          refine held_free 24 (.bool false) rfl (by kernel_rfl) (by kernel_rfl) (by kernel_rfl) (by kernel_rfl) B0 (fun _ _ => by kernel_rfl) ?_
          refine held_free 25 (.bool false) rfl (by kernel_rfl) (by kernel_rfl) (by kernel_rfl) (by kernel_rfl) B0 (fun _ _ => by kernel_rfl) ?_
          refine held_pass 26 rfl (by kernel_rfl) (by kernel_rfl) (by kernel_rfl) (by kernel_rfl) B0 ?_
          refine held_pass 27 rfl (by kernel_rfl) (by kernel_rfl) (by kernel_rfl) (by kernel_rfl) B0 ?_
          refine held_pass 28 rfl (by kernel_rfl) (by kernel_rfl) (by kernel_rfl) (by kernel_rfl) B0 ?_
          refine held_free 29 (.bool false) rfl (by kernel_rfl) (by kernel_rfl) (by kernel_rfl) (by kernel_rfl) B0 (fun _ _ => by kernel_rfl) ?_
          refine held_free 30 (.bool false) rfl (by kernel_rfl) (by kernel_rfl) (by kernel_rfl) (by kernel_rfl) B0 (fun _ _ => by kernel_rfl) ?_
          refine held_pass 31 rfl (by kernel_rfl) (by kernel_rfl) (by kernel_rfl) (by kernel_rfl) B0 ?_
          refine held_pass 32 rfl (by kernel_rfl) (by kernel_rfl) (by kernel_rfl) (by kernel_rfl) B0 ?_
          refine held_pass 33 rfl (by kernel_rfl) (by kernel_rfl) (by kernel_rfl) (by kernel_rfl) B0 ?_
          refine held_pass 34 rfl (by kernel_rfl) (by kernel_rfl) (by kernel_rfl) (by kernel_rfl) B0 ?_
          refine held_pass 35 rfl (by kernel_rfl) (by kernel_rfl) (by kernel_rfl) (by kernel_rfl) B0 ?_
          refine held_pass 36 rfl (by kernel_rfl) (by kernel_rfl) (by kernel_rfl) (by kernel_rfl) B0 ?_
          refine held_pass 37 rfl (by kernel_rfl) (by kernel_rfl) (by kernel_rfl) (by kernel_rfl) B0 ?_
          refine held_free 38 (.bool false) rfl (by kernel_rfl) (by kernel_rfl) (by kernel_rfl) (by kernel_rfl) B0 (fun _ _ => by kernel_rfl) ?_
          refine held_free 39 (.bool false) rfl (by kernel_rfl) (by kernel_rfl) (by kernel_rfl) (by kernel_rfl) B0 (fun _ _ => by kernel_rfl) ?_
          refine held_pass 40 rfl (by kernel_rfl) (by kernel_rfl) (by kernel_rfl) (by kernel_rfl) B0 ?_
          refine held_pass 41 rfl (by kernel_rfl) (by kernel_rfl) (by kernel_rfl) (by kernel_rfl) B0 ?_
          refine held_pass 42 rfl (by kernel_rfl) (by kernel_rfl) (by kernel_rfl) (by kernel_rfl) B0 ?_
          refine held_pass 43 rfl (by kernel_rfl) (by kernel_rfl) (by kernel_rfl) (by kernel_rfl) B0 ?_
          refine held_pass 44 rfl (by kernel_rfl) (by kernel_rfl) (by kernel_rfl) (by kernel_rfl) B0 ?_
          refine held_pass 45 rfl (by kernel_rfl) (by kernel_rfl) (by kernel_rfl) (by kernel_rfl) B0 ?_
          refine held_pass 46 rfl (by kernel_rfl) (by kernel_rfl) (by kernel_rfl) (by kernel_rfl) B0 ?_
          refine held_free 47 (.bool false) rfl (by kernel_rfl) (by kernel_rfl) (by kernel_rfl) (by kernel_rfl) B0 (fun _ _ => by kernel_rfl) ?_
          refine held_free 48 (.bool false) rfl (by kernel_rfl) (by kernel_rfl) (by kernel_rfl) (by kernel_rfl) B0 (fun _ _ => by kernel_rfl) ?_
          refine held_end (by kernel_rfl) ?_
          go_wp2_with fail
          rw [HMM.out]
          exact ret_slot 2 (.bool false) (by kernel_rfl) (by kernel_rfl) (by kernel_rfl) ⟨rfl, by have q := HBV.out.trans (B0.mono HBV.out.size); first | exact q | (rw [HB0.out]; exact q)⟩
    · have H_i0 := Lib.hid (show decide (0 ≤ id) = true from decide_eq_true h_i0)
      have H_i1 := Lib.hid (show decide (id ≤ 255) = false from decide_eq_false h_i1)
      have HX := Lib.hid hx0
      have HMM := Lib.hid (show M = false from hM.trans (decide_eq_false fun m => h_i1 m.1.2))
      have HB0 := Lib.hid hb0
      have HVE := Lib.hid hV
      clear hx0 hb0 hV hM h_i0 h_i1
      go_enter Try.func22, Try.ntmps22
      go_upto_region 1 with fail
      rw [← HVE.out, ← HB0.out]
      clear HVE
      have B0 : Below V.heap.size V V.drew := (Below.refl _ V).drew
      refine held_start (fun W => Below V.heap.size V W) (by kernel_rfl) (n := 49) rfl ?_
      obtain ⟨W0, hW0⟩ : ∃ W0, W0 = V.drew := ⟨_, rfl⟩
      rw [← hW0] at B0 ⊢
      clear hW0
      refine held_free 0 (.pointer (some ⟨b0, 1, none⟩)) rfl (by kernel_rfl) (by kernel_rfl) (by kernel_rfl) (by kernel_rfl) B0 (fun _ _ => ex_field (v := .pointer (some ⟨b0, 0, none⟩)) 23 (.tmp 1) 1 (by kernel_rfl) (by kernel_rfl) (by kernel_rfl)) ?_
      refine held_free 1 (.int .i64 id) rfl (by kernel_rfl) (by kernel_rfl) (by kernel_rfl) (by kernel_rfl) B0 (fun W b => ex_load 3 (.tmp 3) (by kernel_rfl) ⟨b0, 1, none⟩ (by kernel_rfl) (by kernel_rfl) ((HX.out.below b HX.out.lt).cell 1)) ?_
      refine held_free 2 (.bool true) rfl (by kernel_rfl) (by kernel_rfl) (by kernel_rfl) (by kernel_rfl) B0 (fun _ _ => ex_intleb .i64 3 3 (.const (.int .i64 0)) (.tmp 4) (by kernel_rfl) (0) (id) (by kernel_rfl) (by kernel_rfl) (by kernel_rfl) true (H_i0.out)) ?_
      refine held_free 3 (.bool true) rfl (by kernel_rfl) (by kernel_rfl) (by kernel_rfl) (by kernel_rfl) B0 (fun _ _ => by kernel_rfl) ?_
      refine held_free 4 (.pointer (some ⟨b0, 1, none⟩)) rfl (by kernel_rfl) (by kernel_rfl) (by kernel_rfl) (by kernel_rfl) B0 (fun _ _ => ex_field (v := .pointer (some ⟨b0, 0, none⟩)) 23 (.tmp 1) 1 (by kernel_rfl) (by kernel_rfl) (by kernel_rfl)) ?_
      refine held_free 5 (.int .i64 id) rfl (by kernel_rfl) (by kernel_rfl) (by kernel_rfl) (by kernel_rfl) B0 (fun W b => ex_load 3 (.tmp 7) (by kernel_rfl) ⟨b0, 1, none⟩ (by kernel_rfl) (by kernel_rfl) ((HX.out.below b HX.out.lt).cell 1)) ?_
      refine held_free 6 (.bool false) rfl (by kernel_rfl) (by kernel_rfl) (by kernel_rfl) (by kernel_rfl) B0 (fun _ _ => ex_intleb .i64 3 3 (.tmp 8) (.const (.int .i64 255)) (by kernel_rfl) (id) (255) (by kernel_rfl) (by kernel_rfl) (by kernel_rfl) false (H_i1.out)) ?_
      refine held_free 7 (.bool false) rfl (by kernel_rfl) (by kernel_rfl) (by kernel_rfl) (by kernel_rfl) B0 (fun _ _ => by kernel_rfl) ?_
      refine held_free 8 (.bool false) rfl (by kernel_rfl) (by kernel_rfl) (by kernel_rfl) (by kernel_rfl) B0 (fun _ _ => by kernel_rfl) ?_
      refine held_pass 9 rfl (by kernel_rfl) (by kernel_rfl) (by kernel_rfl) (by kernel_rfl) B0 ?_
      refine held_pass 10 rfl (by kernel_rfl) (by kernel_rfl) (by kernel_rfl) (by kernel_rfl) B0 ?_
      refine held_pass 11 rfl (by kernel_rfl) (by kernel_rfl) (by kernel_rfl) (by kernel_rfl) B0 ?_
      refine held_pass 12 rfl (by kernel_rfl) (by kernel_rfl) (by kernel_rfl) (by kernel_rfl) B0 ?_
      refine held_pass 13 rfl (by kernel_rfl) (by kernel_rfl) (by kernel_rfl) (by kernel_rfl) B0 ?_
      refine held_pass 14 rfl (by kernel_rfl) (by kernel_rfl) (by kernel_rfl) (by kernel_rfl) B0 ?_
      refine held_pass 15 rfl (by kernel_rfl) (by kernel_rfl) (by kernel_rfl) (by kernel_rfl) B0 ?_
      refine held_pass 16 rfl (by kernel_rfl) (by kernel_rfl) (by kernel_rfl) (by kernel_rfl) B0 ?_
      refine held_pass 17 rfl (by kernel_rfl) (by kernel_rfl) (by kernel_rfl) (by kernel_rfl) B0 ?_
      refine held_pass 18 rfl (by kernel_rfl) (by kernel_rfl) (by kernel_rfl) (by kernel_rfl) B0 ?_
      refine held_free 19 (.bool false) rfl (by kernel_rfl) (by kernel_rfl) (by kernel_rfl) (by kernel_rfl) B0 (fun _ _ => by kernel_rfl) ?_
      refine held_free 20 (.bool false) rfl (by kernel_rfl) (by kernel_rfl) (by kernel_rfl) (by kernel_rfl) B0 (fun _ _ => by kernel_rfl) ?_
      refine held_pass 21 rfl (by kernel_rfl) (by kernel_rfl) (by kernel_rfl) (by kernel_rfl) B0 ?_
      refine held_pass 22 rfl (by kernel_rfl) (by kernel_rfl) (by kernel_rfl) (by kernel_rfl) B0 ?_
      refine held_pass 23 rfl (by kernel_rfl) (by kernel_rfl) (by kernel_rfl) (by kernel_rfl) B0 ?_
      refine held_free 24 (.bool false) rfl (by kernel_rfl) (by kernel_rfl) (by kernel_rfl) (by kernel_rfl) B0 (fun _ _ => by kernel_rfl) ?_
      refine held_free 25 (.bool false) rfl (by kernel_rfl) (by kernel_rfl) (by kernel_rfl) (by kernel_rfl) B0 (fun _ _ => by kernel_rfl) ?_
      refine held_pass 26 rfl (by kernel_rfl) (by kernel_rfl) (by kernel_rfl) (by kernel_rfl) B0 ?_
      refine held_pass 27 rfl (by kernel_rfl) (by kernel_rfl) (by kernel_rfl) (by kernel_rfl) B0 ?_
      refine held_pass 28 rfl (by kernel_rfl) (by kernel_rfl) (by kernel_rfl) (by kernel_rfl) B0 ?_
      refine held_free 29 (.bool false) rfl (by kernel_rfl) (by kernel_rfl) (by kernel_rfl) (by kernel_rfl) B0 (fun _ _ => by kernel_rfl) ?_
      refine held_free 30 (.bool false) rfl (by kernel_rfl) (by kernel_rfl) (by kernel_rfl) (by kernel_rfl) B0 (fun _ _ => by kernel_rfl) ?_
      refine held_pass 31 rfl (by kernel_rfl) (by kernel_rfl) (by kernel_rfl) (by kernel_rfl) B0 ?_
      refine held_pass 32 rfl (by kernel_rfl) (by kernel_rfl) (by kernel_rfl) (by kernel_rfl) B0 ?_
      refine held_pass 33 rfl (by kernel_rfl) (by kernel_rfl) (by kernel_rfl) (by kernel_rfl) B0 ?_
      refine held_pass 34 rfl (by kernel_rfl) (by kernel_rfl) (by kernel_rfl) (by kernel_rfl) B0 ?_
      refine held_pass 35 rfl (by kernel_rfl) (by kernel_rfl) (by kernel_rfl) (by kernel_rfl) B0 ?_
      refine held_pass 36 rfl (by kernel_rfl) (by kernel_rfl) (by kernel_rfl) (by kernel_rfl) B0 ?_
      refine held_pass 37 rfl (by kernel_rfl) (by kernel_rfl) (by kernel_rfl) (by kernel_rfl) B0 ?_
      refine held_free 38 (.bool false) rfl (by kernel_rfl) (by kernel_rfl) (by kernel_rfl) (by kernel_rfl) B0 (fun _ _ => by kernel_rfl) ?_
      refine held_free 39 (.bool false) rfl (by kernel_rfl) (by kernel_rfl) (by kernel_rfl) (by kernel_rfl) B0 (fun _ _ => by kernel_rfl) ?_
      refine held_pass 40 rfl (by kernel_rfl) (by kernel_rfl) (by kernel_rfl) (by kernel_rfl) B0 ?_
      refine held_pass 41 rfl (by kernel_rfl) (by kernel_rfl) (by kernel_rfl) (by kernel_rfl) B0 ?_
      refine held_pass 42 rfl (by kernel_rfl) (by kernel_rfl) (by kernel_rfl) (by kernel_rfl) B0 ?_
      refine held_pass 43 rfl (by kernel_rfl) (by kernel_rfl) (by kernel_rfl) (by kernel_rfl) B0 ?_
      refine held_pass 44 rfl (by kernel_rfl) (by kernel_rfl) (by kernel_rfl) (by kernel_rfl) B0 ?_
      refine held_pass 45 rfl (by kernel_rfl) (by kernel_rfl) (by kernel_rfl) (by kernel_rfl) B0 ?_
      refine held_pass 46 rfl (by kernel_rfl) (by kernel_rfl) (by kernel_rfl) (by kernel_rfl) B0 ?_
      refine held_free 47 (.bool false) rfl (by kernel_rfl) (by kernel_rfl) (by kernel_rfl) (by kernel_rfl) B0 (fun _ _ => by kernel_rfl) ?_
      refine held_free 48 (.bool false) rfl (by kernel_rfl) (by kernel_rfl) (by kernel_rfl) (by kernel_rfl) B0 (fun _ _ => by kernel_rfl) ?_
      refine held_end (by kernel_rfl) ?_
      go_wp2_with fail
      rw [HMM.out]
      exact ret_slot 2 (.bool false) (by kernel_rfl) (by kernel_rfl) (by kernel_rfl) ⟨rfl, by have q := HBV.out.trans (B0.mono HBV.out.size); first | exact q | (rw [HB0.out]; exact q)⟩
  · have H_i0 := Lib.hid (show decide (0 ≤ id) = false from decide_eq_false h_i0)
    have HX := Lib.hid hx0
    have HMM := Lib.hid (show M = false from hM.trans (decide_eq_false fun m => h_i0 m.1.1))
    have HB0 := Lib.hid hb0
    have HVE := Lib.hid hV
    clear hx0 hb0 hV hM h_i0
    go_enter Try.func22, Try.ntmps22
    go_upto_region 1 with fail
    rw [← HVE.out, ← HB0.out]
    clear HVE
    have B0 : Below V.heap.size V V.drew := (Below.refl _ V).drew
    refine held_start (fun W => Below V.heap.size V W) (by kernel_rfl) (n := 49) rfl ?_
    obtain ⟨W0, hW0⟩ : ∃ W0, W0 = V.drew := ⟨_, rfl⟩
    rw [← hW0] at B0 ⊢
    clear hW0
    refine held_free 0 (.pointer (some ⟨b0, 1, none⟩)) rfl (by kernel_rfl) (by kernel_rfl) (by kernel_rfl) (by kernel_rfl) B0 (fun _ _ => ex_field (v := .pointer (some ⟨b0, 0, none⟩)) 23 (.tmp 1) 1 (by kernel_rfl) (by kernel_rfl) (by kernel_rfl)) ?_
    refine held_free 1 (.int .i64 id) rfl (by kernel_rfl) (by kernel_rfl) (by kernel_rfl) (by kernel_rfl) B0 (fun W b => ex_load 3 (.tmp 3) (by kernel_rfl) ⟨b0, 1, none⟩ (by kernel_rfl) (by kernel_rfl) ((HX.out.below b HX.out.lt).cell 1)) ?_
    refine held_free 2 (.bool false) rfl (by kernel_rfl) (by kernel_rfl) (by kernel_rfl) (by kernel_rfl) B0 (fun _ _ => ex_intleb .i64 3 3 (.const (.int .i64 0)) (.tmp 4) (by kernel_rfl) (0) (id) (by kernel_rfl) (by kernel_rfl) (by kernel_rfl) false (H_i0.out)) ?_
    refine held_free 3 (.bool false) rfl (by kernel_rfl) (by kernel_rfl) (by kernel_rfl) (by kernel_rfl) B0 (fun _ _ => by kernel_rfl) ?_
    refine held_pass 4 rfl (by kernel_rfl) (by kernel_rfl) (by kernel_rfl) (by kernel_rfl) B0 ?_
    refine held_pass 5 rfl (by kernel_rfl) (by kernel_rfl) (by kernel_rfl) (by kernel_rfl) B0 ?_
    refine held_pass 6 rfl (by kernel_rfl) (by kernel_rfl) (by kernel_rfl) (by kernel_rfl) B0 ?_
    refine held_free 7 (.bool false) rfl (by kernel_rfl) (by kernel_rfl) (by kernel_rfl) (by kernel_rfl) B0 (fun _ _ => by kernel_rfl) ?_
    refine held_free 8 (.bool false) rfl (by kernel_rfl) (by kernel_rfl) (by kernel_rfl) (by kernel_rfl) B0 (fun _ _ => by kernel_rfl) ?_
    refine held_pass 9 rfl (by kernel_rfl) (by kernel_rfl) (by kernel_rfl) (by kernel_rfl) B0 ?_
    refine held_pass 10 rfl (by kernel_rfl) (by kernel_rfl) (by kernel_rfl) (by kernel_rfl) B0 ?_
    refine held_pass 11 rfl (by kernel_rfl) (by kernel_rfl) (by kernel_rfl) (by kernel_rfl) B0 ?_
    refine held_pass 12 rfl (by kernel_rfl) (by kernel_rfl) (by kernel_rfl) (by kernel_rfl) B0 ?_
    refine held_pass 13 rfl (by kernel_rfl) (by kernel_rfl) (by kernel_rfl) (by kernel_rfl) B0 ?_
    refine held_pass 14 rfl (by kernel_rfl) (by kernel_rfl) (by kernel_rfl) (by kernel_rfl) B0 ?_
    refine held_pass 15 rfl (by kernel_rfl) (by kernel_rfl) (by kernel_rfl) (by kernel_rfl) B0 ?_
    refine held_pass 16 rfl (by kernel_rfl) (by kernel_rfl) (by kernel_rfl) (by kernel_rfl) B0 ?_
    refine held_pass 17 rfl (by kernel_rfl) (by kernel_rfl) (by kernel_rfl) (by kernel_rfl) B0 ?_
    refine held_pass 18 rfl (by kernel_rfl) (by kernel_rfl) (by kernel_rfl) (by kernel_rfl) B0 ?_
    refine held_free 19 (.bool false) rfl (by kernel_rfl) (by kernel_rfl) (by kernel_rfl) (by kernel_rfl) B0 (fun _ _ => by kernel_rfl) ?_
    refine held_free 20 (.bool false) rfl (by kernel_rfl) (by kernel_rfl) (by kernel_rfl) (by kernel_rfl) B0 (fun _ _ => by kernel_rfl) ?_
    refine held_pass 21 rfl (by kernel_rfl) (by kernel_rfl) (by kernel_rfl) (by kernel_rfl) B0 ?_
    refine held_pass 22 rfl (by kernel_rfl) (by kernel_rfl) (by kernel_rfl) (by kernel_rfl) B0 ?_
    refine held_pass 23 rfl (by kernel_rfl) (by kernel_rfl) (by kernel_rfl) (by kernel_rfl) B0 ?_
    refine held_free 24 (.bool false) rfl (by kernel_rfl) (by kernel_rfl) (by kernel_rfl) (by kernel_rfl) B0 (fun _ _ => by kernel_rfl) ?_
    refine held_free 25 (.bool false) rfl (by kernel_rfl) (by kernel_rfl) (by kernel_rfl) (by kernel_rfl) B0 (fun _ _ => by kernel_rfl) ?_
    refine held_pass 26 rfl (by kernel_rfl) (by kernel_rfl) (by kernel_rfl) (by kernel_rfl) B0 ?_
    refine held_pass 27 rfl (by kernel_rfl) (by kernel_rfl) (by kernel_rfl) (by kernel_rfl) B0 ?_
    refine held_pass 28 rfl (by kernel_rfl) (by kernel_rfl) (by kernel_rfl) (by kernel_rfl) B0 ?_
    refine held_free 29 (.bool false) rfl (by kernel_rfl) (by kernel_rfl) (by kernel_rfl) (by kernel_rfl) B0 (fun _ _ => by kernel_rfl) ?_
    refine held_free 30 (.bool false) rfl (by kernel_rfl) (by kernel_rfl) (by kernel_rfl) (by kernel_rfl) B0 (fun _ _ => by kernel_rfl) ?_
    refine held_pass 31 rfl (by kernel_rfl) (by kernel_rfl) (by kernel_rfl) (by kernel_rfl) B0 ?_
    refine held_pass 32 rfl (by kernel_rfl) (by kernel_rfl) (by kernel_rfl) (by kernel_rfl) B0 ?_
    refine held_pass 33 rfl (by kernel_rfl) (by kernel_rfl) (by kernel_rfl) (by kernel_rfl) B0 ?_
    refine held_pass 34 rfl (by kernel_rfl) (by kernel_rfl) (by kernel_rfl) (by kernel_rfl) B0 ?_
    refine held_pass 35 rfl (by kernel_rfl) (by kernel_rfl) (by kernel_rfl) (by kernel_rfl) B0 ?_
    refine held_pass 36 rfl (by kernel_rfl) (by kernel_rfl) (by kernel_rfl) (by kernel_rfl) B0 ?_
    refine held_pass 37 rfl (by kernel_rfl) (by kernel_rfl) (by kernel_rfl) (by kernel_rfl) B0 ?_
    refine held_free 38 (.bool false) rfl (by kernel_rfl) (by kernel_rfl) (by kernel_rfl) (by kernel_rfl) B0 (fun _ _ => by kernel_rfl) ?_
    refine held_free 39 (.bool false) rfl (by kernel_rfl) (by kernel_rfl) (by kernel_rfl) (by kernel_rfl) B0 (fun _ _ => by kernel_rfl) ?_
    refine held_pass 40 rfl (by kernel_rfl) (by kernel_rfl) (by kernel_rfl) (by kernel_rfl) B0 ?_
    refine held_pass 41 rfl (by kernel_rfl) (by kernel_rfl) (by kernel_rfl) (by kernel_rfl) B0 ?_
    refine held_pass 42 rfl (by kernel_rfl) (by kernel_rfl) (by kernel_rfl) (by kernel_rfl) B0 ?_
    refine held_pass 43 rfl (by kernel_rfl) (by kernel_rfl) (by kernel_rfl) (by kernel_rfl) B0 ?_
    refine held_pass 44 rfl (by kernel_rfl) (by kernel_rfl) (by kernel_rfl) (by kernel_rfl) B0 ?_
    refine held_pass 45 rfl (by kernel_rfl) (by kernel_rfl) (by kernel_rfl) (by kernel_rfl) B0 ?_
    refine held_pass 46 rfl (by kernel_rfl) (by kernel_rfl) (by kernel_rfl) (by kernel_rfl) B0 ?_
    refine held_free 47 (.bool false) rfl (by kernel_rfl) (by kernel_rfl) (by kernel_rfl) (by kernel_rfl) B0 (fun _ _ => by kernel_rfl) ?_
    refine held_free 48 (.bool false) rfl (by kernel_rfl) (by kernel_rfl) (by kernel_rfl) (by kernel_rfl) B0 (fun _ _ => by kernel_rfl) ?_
    refine held_end (by kernel_rfl) ?_
    go_wp2_with fail
    rw [HMM.out]
    exact ret_slot 2 (.bool false) (by kernel_rfl) (by kernel_rfl) (by kernel_rfl) ⟨rfl, by have q := HBV.out.trans (B0.mono HBV.out.size); first | exact q | (rw [HB0.out]; exact q)⟩
theorem validAdd_any (x : Ad) (w : World) :
    Calls Try.prog 22 #[.agg (adv x)] w fun e w' => e = .returned (.bool (decide x.May)) ∧ Below w.heap.size w w' := by
  obtain ⟨echo, id, ip, hp, port, mac⟩ := x
  cases hp
  · exact valid_false echo id ip port mac w
  · exact valid_true echo id ip port mac w
end Go.Proofs.Ytcofdiamlmlhfaa
