/-
  Codes of numbers, whole and cut, are as the document says (statement KeyMacs, promise P8.2), of all pairs, without condition but the tables' own initial values, which the card ties to the program's text.
-/
import Derived.Test.YtcbakfnpbhgjoaaDoorKeyMore
import Derived.Test.YtcbakfnpbhgjoaaDoorKeyRefs
namespace Go.Proofs.YtcbakfnpbhgjoaaDoor.keyMacs
open Go.ChangeShapes Go.WideShapes Go.ChangeAt Go.RowKit
set_option linter.unusedVariables false

set_option maxHeartbeats 1000000 in
set_option maxRecDepth 100000 in
theorem walk (f s : Nat) (hf : f ≤ 18446744073709551615) (hs : s ≤ 18446744073709551615) (a b : Nat) (ha : a ≤ 4294967295) (hb : b ≤ 4294967295) (w : World) (ht : Tbl w) :
    Calls Tryd.prog 4 #[.agg #[.int .u64 (f : Int), .int .u64 (s : Int), .int .u32 (a : Int), .int .u32 (b : Int)]] w fun e w' => e = .returned (.bool true) ∧ Below w.heap.size w w' := by
  obtain ⟨z32, hz32⟩ : ∃ z32, z32 = byv (List.replicate 32 0) := ⟨_, rfl⟩
  have hdz := digest_zero
  rw [← hz32] at hdz
  have HZK := Lib.hid (show DOk z32 by rw [hz32]; exact dok_zero)
  obtain ⟨M, hM⟩ : ∃ M, M = byv (macn f s a b) := ⟨_, rfl⟩
  have HM := Lib.hid hM
  have HMK := Lib.hid (show DOk M by rw [hM]; exact dok _ (macn_length _ _ _ _))
  obtain ⟨T, hT⟩ : ∃ T, T = txt ((macn f s a b).take 8) := ⟨_, rfl⟩
  have HT8 := Lib.hid hT
  obtain ⟨U, hU⟩ : ∃ U, U = txt ((macn f s a b).take 20) := ⟨_, rfl⟩
  have HT20 := Lib.hid hU
  obtain ⟨w0, hw0⟩ : ∃ w0, w0 = w.alloc (.cells #[.int .u64 (f : Int), .int .u64 (s : Int), .int .u32 (a : Int), .int .u32 (b : Int)] 30) := ⟨_, rfl⟩
  have b0 : Below w.heap.size w w0 := by rw [hw0]; exact (Below.refl _ _).alloc (Nat.le_refl _) _
  have n0 : Blk w0 w.heap.size 30 #[.int .u64 (f : Int), .int .u64 (s : Int), .int .u32 (a : Int), .int .u32 (b : Int)] := by rw [hw0]; exact Blk.new _ _ _
  have c0 := n0.cell 0
  have c1 := n0.cell 1
  have c2 := n0.cell 2
  have c3 := n0.cell 3
  have HP0 := Lib.hid n0
  have HB0 := Lib.hid b0
  have HT := Lib.hid ht
  have ew0 := hw0.symm
  clear hz32 ht hM hT hU n0 b0 hw0
  go_enter Tryd.func4, Tryd.ntmps4
  go_wp2_with fail
  refine (MacR_any f s hf hs a b ha hb M HM.out w0).mono ?_
  rintro e W1 ⟨rfl, b1⟩
  have n1 := Blk.new W1 32 z32
  obtain ⟨V, hV⟩ : ∃ V, V = (W1.alloc (.cells z32 32)).setRow W1.heap.size M := ⟨_, rfl⟩
  have hbk : Blk V W1.heap.size 32 M := by rw [hV]; exact setRow_heap _ _ _ _ _ _ n1
  have b2 : Below W1.heap.size W1 V := by rw [hV]; exact below_setRow ((Below.refl _ W1).alloc (Nat.le_refl _) _) (Nat.le_refl _) _
  have bb := b1.trans (b2.mono b1.size)
  have HBV := Lib.hid (HB0.out.trans (bb.mono HB0.out.size))
  have HTV := Lib.hid (HT.out.below HBV.out)
  have HPV := Lib.hid (HP0.out.below bb HP0.out.lt)
  have HN1 := Lib.hid n1
  have HMO := Lib.hid (show z32.size = M.size by rw [HZK.out.size, HMK.out.size])
  have HVE := Lib.hid hV
  obtain ⟨gm, hgm⟩ : ∃ gm, gm = W1.heap.size := ⟨_, rfl⟩
  rw [← hgm] at hbk
  have HG := Lib.hid hgm
  have HKM := Lib.hid hbk
  have hsl8 : ∀ W, (Instr.sliceAt 32 (.pointer (some ⟨gm, 0, none⟩)) none (some (.int .i64 8)) none).run Tryd.prog W = .ok (.slice (some ⟨gm, 0, none⟩) 8 32) W := fun W => slice_front W gm 8 (by decide)
  have hsl20 : ∀ W, (Instr.sliceAt 32 (.pointer (some ⟨gm, 0, none⟩)) none (some (.int .i64 20)) none).run Tryd.prog W = .ok (.slice (some ⟨gm, 0, none⟩) 20 32) W := fun W => slice_front W gm 20 (by decide)
  have hcv8 : ∀ W, Below V.heap.size V W → (convert 35 9 (.slice (some ⟨gm, 0, none⟩) 8 32)).run Tryd.prog W = .ok (.string T) W := fun W q => by
    have h := conv_front W gm 32 (macn f s a b) 8 32 (by rw [← HM.out]; exact HKM.out.below q HKM.out.lt) (by rw [macn_length]; decide)
    rw [HT8.out]; exact h
  have hcv20 : ∀ W, Below V.heap.size V W → (convert 35 9 (.slice (some ⟨gm, 0, none⟩) 20 32)).run Tryd.prog W = .ok (.string U) W := fun W q => by
    have h := conv_front W gm 32 (macn f s a b) 20 32 (by rw [← HM.out]; exact HKM.out.below q HKM.out.lt) (by rw [macn_length]; decide)
    rw [HT20.out]; exact h
  have HS8 := Lib.hid hsl8
  have HS20 := Lib.hid hsl20
  have HC8 := Lib.hid hcv8
  have HC20 := Lib.hid hcv20
  clear n1 hV hbk b1 b2 bb hgm HB0 HP0 hsl8 hsl20 hcv8 hcv20 ew0 c0 c1 c2 c3
  go_upto_region 2 with (refine wpList_store_row rfl 32 (.tmp 3) (.tmp 12) rfl W1.heap.size M rfl rfl 32 z32 HN1.out HMK.out.info HMO.out HMK.out.one ?_)
  rw [← HVE.out, ← HG.out]
  clear HVE HG HN1
  have B0 : Below V.heap.size V V.drew := (Below.refl _ V).drew
  refine held_start (fun W => Below V.heap.size V W) (by kernel_rfl) (n := 43) rfl ?_
  obtain ⟨W0, hW0⟩ : ∃ W0, W0 = V.drew := ⟨_, rfl⟩
  rw [← hW0] at B0 ⊢
  clear hW0
  refine held_free 0 (.pointer (some ⟨w.heap.size, 0, none⟩)) rfl (by kernel_rfl) (by kernel_rfl) (by kernel_rfl) (by kernel_rfl) B0 (fun _ _ => ex_field (v := .pointer (some ⟨w.heap.size, 0, none⟩)) 30 (.tmp 1) 0 (by kernel_rfl) (by kernel_rfl) (by kernel_rfl)) ?_
  refine held_free 1 (.int .u64 (f : Int)) rfl (by kernel_rfl) (by kernel_rfl) (by kernel_rfl) (by kernel_rfl) B0 (fun W b => ex_load 22 (.tmp 13) (by kernel_rfl) ⟨w.heap.size, 0, none⟩ (by kernel_rfl) (by kernel_rfl) ((HPV.out.below b HPV.out.lt).cell 0)) ?_
  refine held_free 2 (.pointer (some ⟨w.heap.size, 1, none⟩)) rfl (by kernel_rfl) (by kernel_rfl) (by kernel_rfl) (by kernel_rfl) B0 (fun _ _ => ex_field (v := .pointer (some ⟨w.heap.size, 0, none⟩)) 30 (.tmp 1) 1 (by kernel_rfl) (by kernel_rfl) (by kernel_rfl)) ?_
  refine held_free 3 (.int .u64 (s : Int)) rfl (by kernel_rfl) (by kernel_rfl) (by kernel_rfl) (by kernel_rfl) B0 (fun W b => ex_load 22 (.tmp 15) (by kernel_rfl) ⟨w.heap.size, 1, none⟩ (by kernel_rfl) (by kernel_rfl) ((HPV.out.below b HPV.out.lt).cell 1)) ?_
  refine held_free 4 (.pointer (some ⟨w.heap.size, 2, none⟩)) rfl (by kernel_rfl) (by kernel_rfl) (by kernel_rfl) (by kernel_rfl) B0 (fun _ _ => ex_field (v := .pointer (some ⟨w.heap.size, 0, none⟩)) 30 (.tmp 1) 2 (by kernel_rfl) (by kernel_rfl) (by kernel_rfl)) ?_
  refine held_free 5 (.int .u32 (a : Int)) rfl (by kernel_rfl) (by kernel_rfl) (by kernel_rfl) (by kernel_rfl) B0 (fun W b => ex_load 24 (.tmp 17) (by kernel_rfl) ⟨w.heap.size, 2, none⟩ (by kernel_rfl) (by kernel_rfl) ((HPV.out.below b HPV.out.lt).cell 2)) ?_
  refine held_free 6 (.pointer (some ⟨w.heap.size, 3, none⟩)) rfl (by kernel_rfl) (by kernel_rfl) (by kernel_rfl) (by kernel_rfl) B0 (fun _ _ => ex_field (v := .pointer (some ⟨w.heap.size, 0, none⟩)) 30 (.tmp 1) 3 (by kernel_rfl) (by kernel_rfl) (by kernel_rfl)) ?_
  refine held_free 7 (.int .u32 (b : Int)) rfl (by kernel_rfl) (by kernel_rfl) (by kernel_rfl) (by kernel_rfl) B0 (fun W b => ex_load 24 (.tmp 19) (by kernel_rfl) ⟨w.heap.size, 3, none⟩ (by kernel_rfl) (by kernel_rfl) ((HPV.out.below b HPV.out.lt).cell 3)) ?_
  refine held_free 9 (.agg M) rfl (by kernel_rfl) (by kernel_rfl) (by kernel_rfl) (by kernel_rfl) B0 (fun W b => exec_row_ 32 (.tmp 3) (by kernel_rfl) gm (by kernel_rfl) 32 M (0, 0) _ (HKM.out.below b HKM.out.lt) digest_under rfl HMK.out.info) ?_
  refine held_call 8 rfl (by kernel_rfl) (by kernel_rfl) (by kernel_rfl) (Mac_any f s hf hs a b ha hb M HM.out _ (HTV.out.below B0)) (fun w' h => bel_in B0 h) ?_
  intro W1 hW1
  have B1 := bel_in B0 hW1
  clear hW1 B0
  refine held_free 10 (.bool true) rfl (by kernel_rfl) (by kernel_rfl) (by kernel_rfl) (by kernel_rfl) B1 (fun _ _ => ex_digeq 32 (.tmp 21) (.tmp 22) (by kernel_rfl) (macn f s a b) (macn_length _ _ _ _) M HM.out (by kernel_rfl) (by kernel_rfl)) ?_
  refine held_free 11 (.bool true) rfl (by kernel_rfl) (by kernel_rfl) (by kernel_rfl) (by kernel_rfl) B1 (fun _ _ => by kernel_rfl) ?_
  refine held_free 12 (.pointer (some ⟨w.heap.size, 0, none⟩)) rfl (by kernel_rfl) (by kernel_rfl) (by kernel_rfl) (by kernel_rfl) B1 (fun _ _ => ex_field (v := .pointer (some ⟨w.heap.size, 0, none⟩)) 30 (.tmp 1) 0 (by kernel_rfl) (by kernel_rfl) (by kernel_rfl)) ?_
  refine held_free 13 (.int .u64 (f : Int)) rfl (by kernel_rfl) (by kernel_rfl) (by kernel_rfl) (by kernel_rfl) B1 (fun W b => ex_load 22 (.tmp 25) (by kernel_rfl) ⟨w.heap.size, 0, none⟩ (by kernel_rfl) (by kernel_rfl) ((HPV.out.below b HPV.out.lt).cell 0)) ?_
  refine held_free 14 (.pointer (some ⟨w.heap.size, 1, none⟩)) rfl (by kernel_rfl) (by kernel_rfl) (by kernel_rfl) (by kernel_rfl) B1 (fun _ _ => ex_field (v := .pointer (some ⟨w.heap.size, 0, none⟩)) 30 (.tmp 1) 1 (by kernel_rfl) (by kernel_rfl) (by kernel_rfl)) ?_
  refine held_free 15 (.int .u64 (s : Int)) rfl (by kernel_rfl) (by kernel_rfl) (by kernel_rfl) (by kernel_rfl) B1 (fun W b => ex_load 22 (.tmp 27) (by kernel_rfl) ⟨w.heap.size, 1, none⟩ (by kernel_rfl) (by kernel_rfl) ((HPV.out.below b HPV.out.lt).cell 1)) ?_
  refine held_free 16 (.pointer (some ⟨w.heap.size, 2, none⟩)) rfl (by kernel_rfl) (by kernel_rfl) (by kernel_rfl) (by kernel_rfl) B1 (fun _ _ => ex_field (v := .pointer (some ⟨w.heap.size, 0, none⟩)) 30 (.tmp 1) 2 (by kernel_rfl) (by kernel_rfl) (by kernel_rfl)) ?_
  refine held_free 17 (.int .u32 (a : Int)) rfl (by kernel_rfl) (by kernel_rfl) (by kernel_rfl) (by kernel_rfl) B1 (fun W b => ex_load 24 (.tmp 29) (by kernel_rfl) ⟨w.heap.size, 2, none⟩ (by kernel_rfl) (by kernel_rfl) ((HPV.out.below b HPV.out.lt).cell 2)) ?_
  refine held_free 18 (.pointer (some ⟨w.heap.size, 3, none⟩)) rfl (by kernel_rfl) (by kernel_rfl) (by kernel_rfl) (by kernel_rfl) B1 (fun _ _ => ex_field (v := .pointer (some ⟨w.heap.size, 0, none⟩)) 30 (.tmp 1) 3 (by kernel_rfl) (by kernel_rfl) (by kernel_rfl)) ?_
  refine held_free 19 (.int .u32 (b : Int)) rfl (by kernel_rfl) (by kernel_rfl) (by kernel_rfl) (by kernel_rfl) B1 (fun W b => ex_load 24 (.tmp 31) (by kernel_rfl) ⟨w.heap.size, 3, none⟩ (by kernel_rfl) (by kernel_rfl) ((HPV.out.below b HPV.out.lt).cell 3)) ?_
  refine held_free 21 (.slice (some ⟨gm, 0, none⟩) 8 32) rfl (by kernel_rfl) (by kernel_rfl) (by kernel_rfl) (by kernel_rfl) B1 (fun W _ => ex_slice_front (v := .pointer (some ⟨gm, 0, none⟩)) (hv := .int .i64 8) 32 (.tmp 3) (.const (.int .i64 8)) (by kernel_rfl) (by kernel_rfl) (by kernel_rfl) (HS8.out W)) ?_
  refine held_free 22 (.string T) rfl (by kernel_rfl) (by kernel_rfl) (by kernel_rfl) (by kernel_rfl) B1 (fun W q => ex_convert_to (v := .slice (some ⟨gm, 0, none⟩) 8 32) 35 9 (.tmp 34) (by kernel_rfl) (by kernel_rfl) (HC8.out W q)) ?_
  refine held_call 20 rfl (by kernel_rfl) (by kernel_rfl) (by kernel_rfl) (Short_any f s hf hs a b ha hb T HT8.out _ (HTV.out.below B1)) (fun w' h => bel_in B1 h) ?_
  intro W2 hW2
  have B2 := bel_in B1 hW2
  clear hW2 B1
  refine held_free 23 (.bool true) rfl (by kernel_rfl) (by kernel_rfl) (by kernel_rfl) (by kernel_rfl) B2 (fun _ _ => ex_streq 9 9 (.tmp 33) (.tmp 35) (by kernel_rfl) (T) (T) (by kernel_rfl) (by kernel_rfl) (by kernel_rfl) rfl) ?_
  refine held_free 24 (.bool true) rfl (by kernel_rfl) (by kernel_rfl) (by kernel_rfl) (by kernel_rfl) B2 (fun _ _ => by kernel_rfl) ?_
  refine held_free 25 (.bool true) rfl (by kernel_rfl) (by kernel_rfl) (by kernel_rfl) (by kernel_rfl) B2 (fun _ _ => by kernel_rfl) ?_
  refine held_free 26 (.pointer (some ⟨w.heap.size, 0, none⟩)) rfl (by kernel_rfl) (by kernel_rfl) (by kernel_rfl) (by kernel_rfl) B2 (fun _ _ => ex_field (v := .pointer (some ⟨w.heap.size, 0, none⟩)) 30 (.tmp 1) 0 (by kernel_rfl) (by kernel_rfl) (by kernel_rfl)) ?_
  refine held_free 27 (.int .u64 (f : Int)) rfl (by kernel_rfl) (by kernel_rfl) (by kernel_rfl) (by kernel_rfl) B2 (fun W b => ex_load 22 (.tmp 39) (by kernel_rfl) ⟨w.heap.size, 0, none⟩ (by kernel_rfl) (by kernel_rfl) ((HPV.out.below b HPV.out.lt).cell 0)) ?_
  refine held_free 28 (.pointer (some ⟨w.heap.size, 1, none⟩)) rfl (by kernel_rfl) (by kernel_rfl) (by kernel_rfl) (by kernel_rfl) B2 (fun _ _ => ex_field (v := .pointer (some ⟨w.heap.size, 0, none⟩)) 30 (.tmp 1) 1 (by kernel_rfl) (by kernel_rfl) (by kernel_rfl)) ?_
  refine held_free 29 (.int .u64 (s : Int)) rfl (by kernel_rfl) (by kernel_rfl) (by kernel_rfl) (by kernel_rfl) B2 (fun W b => ex_load 22 (.tmp 41) (by kernel_rfl) ⟨w.heap.size, 1, none⟩ (by kernel_rfl) (by kernel_rfl) ((HPV.out.below b HPV.out.lt).cell 1)) ?_
  refine held_free 30 (.pointer (some ⟨w.heap.size, 2, none⟩)) rfl (by kernel_rfl) (by kernel_rfl) (by kernel_rfl) (by kernel_rfl) B2 (fun _ _ => ex_field (v := .pointer (some ⟨w.heap.size, 0, none⟩)) 30 (.tmp 1) 2 (by kernel_rfl) (by kernel_rfl) (by kernel_rfl)) ?_
  refine held_free 31 (.int .u32 (a : Int)) rfl (by kernel_rfl) (by kernel_rfl) (by kernel_rfl) (by kernel_rfl) B2 (fun W b => ex_load 24 (.tmp 43) (by kernel_rfl) ⟨w.heap.size, 2, none⟩ (by kernel_rfl) (by kernel_rfl) ((HPV.out.below b HPV.out.lt).cell 2)) ?_
  refine held_free 32 (.pointer (some ⟨w.heap.size, 3, none⟩)) rfl (by kernel_rfl) (by kernel_rfl) (by kernel_rfl) (by kernel_rfl) B2 (fun _ _ => ex_field (v := .pointer (some ⟨w.heap.size, 0, none⟩)) 30 (.tmp 1) 3 (by kernel_rfl) (by kernel_rfl) (by kernel_rfl)) ?_
  refine held_free 33 (.int .u32 (b : Int)) rfl (by kernel_rfl) (by kernel_rfl) (by kernel_rfl) (by kernel_rfl) B2 (fun W b => ex_load 24 (.tmp 45) (by kernel_rfl) ⟨w.heap.size, 3, none⟩ (by kernel_rfl) (by kernel_rfl) ((HPV.out.below b HPV.out.lt).cell 3)) ?_
  refine held_free 35 (.slice (some ⟨gm, 0, none⟩) 20 32) rfl (by kernel_rfl) (by kernel_rfl) (by kernel_rfl) (by kernel_rfl) B2 (fun W _ => ex_slice_front (v := .pointer (some ⟨gm, 0, none⟩)) (hv := .int .i64 20) 32 (.tmp 3) (.const (.int .i64 20)) (by kernel_rfl) (by kernel_rfl) (by kernel_rfl) (HS20.out W)) ?_
  refine held_free 36 (.string U) rfl (by kernel_rfl) (by kernel_rfl) (by kernel_rfl) (by kernel_rfl) B2 (fun W q => ex_convert_to (v := .slice (some ⟨gm, 0, none⟩) 20 32) 35 9 (.tmp 48) (by kernel_rfl) (by kernel_rfl) (HC20.out W q)) ?_
  refine held_call 34 rfl (by kernel_rfl) (by kernel_rfl) (by kernel_rfl) (Long_any f s hf hs a b ha hb U HT20.out _ (HTV.out.below B2)) (fun w' h => bel_in B2 h) ?_
  intro W3 hW3
  have B3 := bel_in B2 hW3
  clear hW3 B2
  refine held_free 37 (.bool true) rfl (by kernel_rfl) (by kernel_rfl) (by kernel_rfl) (by kernel_rfl) B3 (fun _ _ => ex_streq 9 9 (.tmp 47) (.tmp 49) (by kernel_rfl) (U) (U) (by kernel_rfl) (by kernel_rfl) (by kernel_rfl) rfl) ?_
  refine held_free 38 (.bool true) rfl (by kernel_rfl) (by kernel_rfl) (by kernel_rfl) (by kernel_rfl) B3 (fun _ _ => by kernel_rfl) ?_
  refine held_free 39 (.bool true) rfl (by kernel_rfl) (by kernel_rfl) (by kernel_rfl) (by kernel_rfl) B3 (fun _ _ => by kernel_rfl) ?_
  refine held_call 40 rfl (by kernel_rfl) (by kernel_rfl) (by kernel_rfl) (works_t _ (HTV.out.below B3)) (fun w' h => bel_in B3 h) ?_
  intro W4 hW4
  have B4 := bel_in B3 hW4
  clear hW4 B3
  refine held_free 41 (.bool true) rfl (by kernel_rfl) (by kernel_rfl) (by kernel_rfl) (by kernel_rfl) B4 (fun _ _ => by kernel_rfl) ?_
  refine held_free 42 (.bool true) rfl (by kernel_rfl) (by kernel_rfl) (by kernel_rfl) (by kernel_rfl) B4 (fun _ _ => by kernel_rfl) ?_
  refine held_end (by kernel_rfl) ?_
  go_wp2_with fail
  exact ret_slot 2 (.bool true) (by kernel_rfl) (by kernel_rfl) (by kernel_rfl) ⟨rfl, HBV.out.trans (B4.mono HBV.out.size)⟩

set_option maxRecDepth 100000 in
theorem lifted (os : Os) (started : os.Started) (H : Type) (enc : TypeId × Value → H) :
    ReturnsInHanded {} Tryd.checked os 4 .any (fun w args => (Rows.keyMacsSpec.pre enc Tryd.prog Tryd.f4 [] false w args ∧ laidMetH Tryd.prog laid1 w) ∧ sizedMet enc Tryd.prog Tryd.f4 (OpenSpec.ofChange Rows.keyMacsSpec) false w args)
      (Rows.keyMacsSpec.post enc Tryd.prog Tryd.f4 false true false false) := by
  refine returnsInHanded_of_change_and (C := Tryd.checked) (X := fun w _ => laidMetH Tryd.prog laid1 w) (fun _ _ _ hh h => h.of_heap hh) own started (by kernel_rfl) Tryd.func4
    (ChangeSpec.witness_shaped (enc := enc) (C := Tryd.checked) (os := os) (X := fun w _ => laidMetH Tryd.prog laid1 w) false (World.doorLaid Tryd.prog 400 os) #[.agg #[.int .u64 0, .int .u64 0, .int .u32 0, .int .u32 0]] 8 rfl (World.shaped_of_RefB (by kernel_rfl) (by kernel_rfl)) (by kernel_rfl) (by kernel_rfl) (by kernel_rfl) (door_met os _)) ?_
  intro W base args ds gs before hval0 hW hcnd hsz0 hL _
  have hsz : (DataW.weightsEach Tryd.prog (Tryd.f4.params.toList ++ Rows.keyMacsSpec.plain.varTypes Tryd.prog) (ds ++ gs)).all (· ≤ reachBytes) = true := hsz0
  have ht := table_of hL
  have hval : ∀ (j : Nat) t v, Tryd.f4.params[j]? = some t → args[j]? = some v → Value.okWide Tryd.prog W .any base t v := hval0
  have hW' := hW
  obtain ⟨p, q, hA0, hV, rfl, hfz, hnd⟩ := hW
  have hA : DataW.TrodAll enc Tryd.prog W 0 (fun _ => true) true Tryd.f4.params.toList args.toList ds p := hA0
  rw [Tryd.params4] at hA hval hsz
  obtain ⟨v0, vs0, d0, ds0, p0, q0, hargs, rfl, rfl, h0, r0⟩ := trodAll_cons hA
  obtain ⟨rfl, rfl, rfl⟩ := trodAll_nil r0
  obtain rfl : args = #[v0] := by cases args; simp_all
  obtain ⟨rfl, rfl⟩ := trodVars_none hV
  have k0 := h0
  have lt0 : ∀ x ∈ p0, x.block < W.heap.size := by obtain ⟨m, hm⟩ := k0; exact DataW.trod_lt m _ _ _ hm
  obtain ⟨f, s, a, b, rfl, hf, hs, ha, hb⟩ := open_keys (hval 0 30 v0 rfl rfl) h0
  clear hA0 hval0
  simp only [List.append_nil] at hW'
  refine (walk f s hf hs a b ha hb W ht).mono fun e W' ⟨he, bel⟩ => ?_
  subst he
  exact ⟨_, rfl, _, _, _, [], _, [], hW', trodAll_mk1 (shut_bool Tryd.underlying4 _), (trodAll_cons_mk (Below.trod laidOut (by kernel_rfl) (of_decide_eq_true (by kernel_rfl)) k0 bel lt0) trodAll_mk0), rfl, bel.frame _, fun h => by cases h⟩

theorem over : Rows.KeyMacsSaid :=
  OpenClaim.holds_of_wide 4 Tryd.f4 rfl rfl rfl rfl rfl rfl rfl ⟨rfl, rfl, rfl, rfl, rfl⟩ rfl rfl rfl rfl rfl (by kernel_rfl) Tryd.func4 (by kernel_rfl)
    (of_decide_eq_true (by kernel_rfl)) (by unfold Func.isWrapper; first | (rw [if_pos (by decide +kernel)]; kernel_rfl) | (rw [if_neg (by decide +kernel)]; exact ⟨rfl, rfl⟩))
    (fun os started H enc _ => lifted os started H enc)

theorem proved : Rows.KeyMacsCardSaid :=
  Claim7.holds_tied_plain_at .later [] [.data, .data] true _ false
    over (fun _ h => by cases h) (by kernel_rfl) (fun _ h => by cases h) keyMacs_row_tie rfl ⟨rfl, rfl⟩ (by kernel_rfl) rfl
    (fun f fn hf hfn => by
      obtain rfl : f = 4 := Option.some.inj ((show Tryd.prog.funcNamed "plait/plaitlaw08.KeyMacs" = some 4 by kernel_rfl).symm.trans hf) |>.symm
      obtain rfl : fn = Tryd.f4 := (Option.some.inj (Tryd.func4.symm.trans hfn)).symm
      exact ⟨by kernel_rfl, fun j t ht => by
        rw [Tryd.params4] at ht
        have hm : t ∈ ([30] : List TypeId) := by simpa using Array.mem_of_getElem? ht
        have hall : (([30] : List TypeId).all fun u => !Tryd.prog.wantsStandIn u) = true := by kernel_rfl
        exact (show Tryd.prog.wantsStandIn t = false by simpa using List.all_eq_true.1 hall t hm)⟩)
    (by kernel_rfl)
#print axioms proved
end Go.Proofs.YtcbakfnpbhgjoaaDoor.keyMacs
