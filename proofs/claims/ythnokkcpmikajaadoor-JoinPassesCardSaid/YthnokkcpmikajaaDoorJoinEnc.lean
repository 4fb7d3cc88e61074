/-
  What the closures that lay a form's body, encoders and Encode of package join answer, each by its walk.
-/
import Derived.Test.YthnokkcpmikajaaDoorJoinValid
import Derived.Laws.CopyOwn
namespace Go.Proofs.YthnokkcpmikajaaDoor
open Go.ChangeShapes Go.WideShapes Go.ChangeAt Go.RowKit
set_option linter.unusedVariables false

theorem none_and (a : ByteArray) : (⟨#[]⟩ : ByteArray) ++ a = a := by apply ByteArray.ext; rw [ByteArray.data_append]; simp
theorem be_len (m n : Nat) : (txt (be m n)).size = m := by rw [txt_size, be_length]
abbrev enc1 (g c : Nat) : Value := .func (.func 30) #[] #[.pointer (some ⟨g, 0, none⟩), .pointer (some ⟨c, 0, none⟩)]
abbrev enc2 (g c : Nat) : Value := .func (.func 32) #[] #[.pointer (some ⟨g, 0, none⟩), .pointer (some ⟨c, 0, none⟩)]
abbrev enc3 (g c : Nat) : Value := .func (.func 33) #[] #[.pointer (some ⟨g, 0, none⟩), .pointer (some ⟨c, 0, none⟩)]
set_option maxHeartbeats 1000000 in
set_option maxRecDepth 100000 in
theorem enc1_any (x : Jn) (hx : x.Ok) (F : ByteArray) (hF : F.size ≤ 100) (T1 T : ByteArray) (h1 : F ++ ⟨(be 4 x.token).toArray⟩ = T1) (hT : T1 ++ ⟨(be 4 x.nonce).toArray⟩ = T) (g c : Nat) (w : World) (hg : Blk w g 9 #[.string F]) (hc : Blk w c 24 (jnv x)) :
    Calls Tryd.prog 30 #[.pointer (some ⟨g, 0, none⟩), .pointer (some ⟨c, 0, none⟩)] w fun e w' => e = .returned (.string T) ∧ Below w.heap.size w w' := by
  have s1 : T1.size ≤ 200 := by rw [← h1, ByteArray.size_append]; have := be_len 4 x.token; unfold txt at this; omega
  have HG := Lib.hid hg
  have HC := Lib.hid hc
  have HX := Lib.hid hx
  have HTT := Lib.hid hT
  have H1 := Lib.hid h1
  clear hg hc hx hT h1
  go_enter Tryd.func30, Tryd.ntmps30
  go_upto_region 1 with fail
  have B0 : Below w.heap.size w w.drew := (Below.refl _ w).drew
  refine held_start (fun W => Below w.heap.size w W) (by kernel_rfl) (n := 8) rfl ?_
  obtain ⟨W0, hW0⟩ : ∃ W0, W0 = w.drew := ⟨_, rfl⟩
  rw [← hW0] at B0 ⊢
  clear hW0
  refine held_free 0 (.string F) rfl (by kernel_rfl) (by kernel_rfl) (by kernel_rfl) (by kernel_rfl) B0 (fun W b => ex_load 9 (.tmp 0) (by kernel_rfl) ⟨g, 0, none⟩ (by kernel_rfl) (by kernel_rfl) ((HG.out.below b HG.out.lt).cell 0)) ?_
  refine held_free 1 (.pointer (some ⟨c, 3, none⟩)) rfl (by kernel_rfl) (by kernel_rfl) (by kernel_rfl) (by kernel_rfl) B0 (fun _ _ => ex_field (v := .pointer (some ⟨c, 0, none⟩)) 24 (.tmp 1) 3 (by kernel_rfl) (by kernel_rfl) (by kernel_rfl)) ?_
  refine held_free 2 (.int .u32 (x.token : Int)) rfl (by kernel_rfl) (by kernel_rfl) (by kernel_rfl) (by kernel_rfl) B0 (fun W b => ex_load 22 (.tmp 4) (by kernel_rfl) ⟨c, 3, none⟩ (by kernel_rfl) (by kernel_rfl) ((HC.out.below b HC.out.lt).cell 3)) ?_
  refine held_free 4 (.pointer (some ⟨c, 4, none⟩)) rfl (by kernel_rfl) (by kernel_rfl) (by kernel_rfl) (by kernel_rfl) B0 (fun _ _ => ex_field (v := .pointer (some ⟨c, 0, none⟩)) 24 (.tmp 1) 4 (by kernel_rfl) (by kernel_rfl) (by kernel_rfl)) ?_
  refine held_free 5 (.int .u32 (x.nonce : Int)) rfl (by kernel_rfl) (by kernel_rfl) (by kernel_rfl) (by kernel_rfl) B0 (fun W b => ex_load 22 (.tmp 7) (by kernel_rfl) ⟨c, 4, none⟩ (by kernel_rfl) (by kernel_rfl) ((HC.out.below b HC.out.lt).cell 4)) ?_
  refine held_call 3 rfl (by kernel_rfl) (by kernel_rfl) (by kernel_rfl) (answer (Put32_any F x.token _ (by omega) HX.out.token) (congrArg Value.string H1.out)) (fun w' h => bel_in B0 h) ?_
  intro W1 hW1
  have B1 := bel_in B0 hW1
  clear hW1 B0
  refine held_call 6 rfl (by kernel_rfl) (by kernel_rfl) (by kernel_rfl) (answer (Put32_any T1 x.nonce _ (by omega) HX.out.nonce) (congrArg Value.string HTT.out)) (fun w' h => bel_in B1 h) ?_
  intro W2 hW2
  have B2 := bel_in B1 hW2
  clear hW2 B1
  refine held_free 7 (.string T) rfl (by kernel_rfl) (by kernel_rfl) (by kernel_rfl) (by kernel_rfl) B2 (fun _ _ => by kernel_rfl) ?_
  refine held_end (by kernel_rfl) ?_
  go_wp2_with fail
  exact ret_slot 2 (.string T) (by kernel_rfl) (by kernel_rfl) (by kernel_rfl) ⟨rfl, B2⟩
set_option maxHeartbeats 1000000 in
set_option maxRecDepth 100000 in
theorem enc2_any (x : Jn) (hx : x.Ok) (F : ByteArray) (hF : F.size ≤ 100) (hm : x.mac.size ≤ 100) (T1 T : ByteArray) (h1 : T1 = F ++ x.mac) (hT : T1 ++ ⟨(be 4 x.nonce).toArray⟩ = T) (g c : Nat) (w : World) (hg : Blk w g 9 #[.string F]) (hc : Blk w c 24 (jnv x)) :
    Calls Tryd.prog 32 #[.pointer (some ⟨g, 0, none⟩), .pointer (some ⟨c, 0, none⟩)] w fun e w' => e = .returned (.string T) ∧ Below w.heap.size w w' := by
  have s1 : T1.size ≤ 200 := by rw [h1, ByteArray.size_append]; omega
  have HG := Lib.hid hg
  have HC := Lib.hid hc
  have HX := Lib.hid hx
  have HTT := Lib.hid hT
  have H1 := Lib.hid h1
  have hcat := fun W => run_string_add (P := Tryd.prog) W F x.mac (by omega) (by omega)
  have g0 := hg.cell 0
  have c4 := hc.cell 4
  have c5 := hc.cell 5
  simp only [List.getElem?_toArray, List.getElem?_cons_zero, List.getElem?_cons_succ] at g0 c4 c5
  clear hg hc hx hT h1
  go_enter Tryd.func32, Tryd.ntmps32
  go_wp2_with fail
  rw [← H1.out]
  refine (answer (Put32_any T1 x.nonce _ (by omega) HX.out.nonce) (congrArg Value.string HTT.out)).mono ?_
  rintro e W ⟨rfl, b⟩
  go_wp2_with fail
  go_ret; exact ⟨rfl, b⟩
set_option maxHeartbeats 1000000 in
set_option maxRecDepth 100000 in
theorem enc3_any (x : Jn) (hx : x.Ok) (F : ByteArray) (hF : F.size ≤ 100) (hm : x.mac.size ≤ 100) (T : ByteArray) (hT : T = F ++ x.mac) (g c : Nat) (w : World) (hg : Blk w g 9 #[.string F]) (hc : Blk w c 24 (jnv x)) :
    Calls Tryd.prog 33 #[.pointer (some ⟨g, 0, none⟩), .pointer (some ⟨c, 0, none⟩)] w fun e w' => e = .returned (.string T) ∧ Below w.heap.size w w' := by
  have HG := Lib.hid hg
  have HC := Lib.hid hc
  have HX := Lib.hid hx
  have HTT := Lib.hid hT
  have hcat := fun W => run_string_add (P := Tryd.prog) W F x.mac (by omega) (by omega)
  have g0 := hg.cell 0
  have c4 := hc.cell 4
  have c5 := hc.cell 5
  simp only [List.getElem?_toArray, List.getElem?_cons_zero, List.getElem?_cons_succ] at g0 c4 c5
  clear hg hc hx hT
  go_enter Tryd.func33, Tryd.ntmps33
  go_wp2_with fail
  go_ret; exact ⟨by rw [HTT.out]; rfl, Below.refl _ _⟩
theorem encs_zero (w : World) : (zeroValue 52).run Tryd.prog w = .ok (.agg #[.nilFunc, .nilFunc, .nilFunc]) w := by kernel_rfl
theorem encs_size : (Tryd.prog.info? 52).map (·.size) = some 3 := by kernel_rfl
/-- What encoders leaves: the three closures, over a text and a copy of the option. -/
def Encs (x : Jn) (F : ByteArray) (w : World) (v : Value) (w' : World) : Prop := ∃ g c, v = .agg #[enc1 g c, enc2 g c, enc3 g c] ∧ Blk w' g 9 #[.string F] ∧ Blk w' c 24 (jnv x) ∧ Below w.heap.size w w'
theorem Encs.below {x : Jn} {F : ByteArray} {w w' : World} {v : Value} (h : Encs x F w v w') : Below w.heap.size w w' := by obtain ⟨_, _, _, _, _, h⟩ := h; exact h
set_option maxHeartbeats 1000000 in
set_option maxRecDepth 100000 in
theorem encoders_any (x : Jn) (i : Nat) (hi : x.id = (i : Int)) (h255 : i ≤ 255) (T1 F : ByteArray) (h1 : T1 = txt (be 1 (Jn.first x.backup))) (hF : T1 ++ ⟨(be 1 i).toArray⟩ = F) (w : World) :
    Calls Tryd.prog 19 #[.agg (jnv x)] w fun e w' => ∃ v, e = .returned v ∧ Encs x F w v w' := by
  obtain ⟨V, hV⟩ : ∃ V, V = (w.alloc (.cells (jnv x) 24)).alloc (.cells #[.nilFunc, .nilFunc, .nilFunc] 52) := ⟨_, rfl⟩
  obtain ⟨b0, hb0⟩ : ∃ b0, b0 = w.heap.size := ⟨_, rfl⟩
  obtain ⟨b1, hb1⟩ : ∃ b1, b1 = w.heap.size + 1 := ⟨_, rfl⟩
  have hxv : Blk V b0 24 (jnv x) := by rw [hV, hb0]; exact (Blk.new _ _ _).alloc _
  have hrv : Blk V b1 52 #[.nilFunc, .nilFunc, .nilFunc] := by
    rw [hV, hb1]
    have := Blk.new (w.alloc (.cells (jnv x) 24)) 52 #[.nilFunc, .nilFunc, .nilFunc]
    simpa using this
  have s1 : T1.size ≤ 10 := by rw [h1, be_len]; omega
  have hsv : V.heap.size = w.heap.size + 2 := by rw [hV]; simp
  have HXV := Lib.hid hxv
  have HRV := Lib.hid hrv
  have HBV := Lib.hid (show Below w.heap.size w V by rw [hV]; exact ((Below.refl _ w).alloc (Nat.le_refl _) _).alloc (by simp) _)
  have HS := Lib.hid (show w.heap.size ≤ b1 ∧ b0 < V.heap.size ∧ b1 < V.heap.size ∧ b0 ≠ b1 from ⟨by omega, by omega, by omega, by omega⟩)
  have H1 := Lib.hid (show (⟨#[]⟩ : ByteArray) ++ ⟨(be 1 (Jn.first x.backup)).toArray⟩ = T1 by rw [none_and, h1]; rfl)
  have HF := Lib.hid hF
  have HI := Lib.hid (show x.id % 256 = (i : Int) by omega)
  have HVE := Lib.hid hV
  have HB0 := Lib.hid hb0
  have HB1 := Lib.hid hb1
  clear hV hb0 hb1 hxv hrv hsv h1 hF hi
  go_enter Tryd.func19, Tryd.ntmps19
  go_upto_region 1 with fail
  rw [← HVE.out, ← HB1.out, ← HB0.out]
  go_cut [3] (fun y wx => ∃ g, y = .pointer (some ⟨g, 0, none⟩) ∧ V.heap.size ≤ g ∧ Blk wx g 9 #[.string F] ∧ Below V.heap.size V wx)
  case first =>
    have B0 : Below V.heap.size V V.drew := (Below.refl _ V).drew
    refine walk_start 8 (fun W => Below V.heap.size V W) (by kernel_rfl) (n := 9) rfl ?_
    obtain ⟨W0, hW0⟩ : ∃ W0, W0 = V.drew := ⟨_, rfl⟩
    rw [← hW0] at B0 ⊢
    clear hW0
    refine walk_free 0 (.agg (jnv x)) rfl (by kernel_rfl) (by kernel_rfl) (by kernel_rfl) (by kernel_rfl) (by kernel_rfl) (by kernel_rfl) B0 (fun W b => exec_row_ 24 (.tmp 1) (by kernel_rfl) b0 (by kernel_rfl) 24 _ (0, 0) _ (HXV.out.below b HXV.out.lt) Tryd.underlying24 rfl jn_size) ?_
    refine walk_free 3 (.pointer (some ⟨b0, 2, none⟩)) rfl (by kernel_rfl) (by kernel_rfl) (by kernel_rfl) (by kernel_rfl) (by kernel_rfl) (by kernel_rfl) B0 (fun _ _ => ex_field (v := .pointer (some ⟨b0, 0, none⟩)) 24 (.tmp 1) 2 (by kernel_rfl) (by kernel_rfl) (by kernel_rfl)) ?_
    refine walk_free 4 (.int .i64 x.id) rfl (by kernel_rfl) (by kernel_rfl) (by kernel_rfl) (by kernel_rfl) (by kernel_rfl) (by kernel_rfl) B0 (fun W b => ex_load 3 (.tmp 7) (by kernel_rfl) ⟨b0, 2, none⟩ (by kernel_rfl) (by kernel_rfl) ((HXV.out.below b HXV.out.lt).cell 2)) ?_
    refine walk_free 5 (.int .u8 (i : Int)) rfl (by kernel_rfl) (by kernel_rfl) (by kernel_rfl) (by kernel_rfl) (by kernel_rfl) (by kernel_rfl) B0 (fun W _ => ex_convert_to (v := .int .i64 x.id) 3 5 (.tmp 8) (by kernel_rfl) (by kernel_rfl) (conv_i64_u8 x.id i HI.out W)) ?_
    refine walk_two 1 7 (by kernel_rfl) ?_ ?_
    · refine do_call 1 rfl (by kernel_rfl) (by kernel_rfl) (firstOf_any x _) (fun w' h => bel_in B0 h) ?_
      intro W1 hW1
      have B1 := bel_in B0 hW1
      clear hW1 B0
      refine walk_two 2 7 (by kernel_rfl) ?_ ?_
      · refine do_call 2 rfl (by kernel_rfl) (by kernel_rfl) (answer (Put8_any ⟨#[]⟩ (Jn.first x.backup) _ (by decide) (Jn.first_le _)) (congrArg Value.string H1.out)) (fun w' h => bel_in B1 h) ?_
        intro W2 hW2
        have B2 := bel_in B1 hW2
        clear hW2 B1
        refine walk_two 6 7 (by kernel_rfl) ?_ ?_
        · refine do_call 6 rfl (by kernel_rfl) (by kernel_rfl) (answer (Put8_any T1 i _ (by omega) (by omega)) (congrArg Value.string HF.out)) (fun w' h => bel_in B2 h) ?_
          intro W3 hW3
          have B3 := bel_in B2 hW3
          clear hW3 B2
          obtain ⟨W4, hW4⟩ : ∃ w', w' = W3.alloc (.cells #[.string ⟨#[]⟩] 9) := ⟨_, rfl⟩
          have N4_4 : Blk W4 W3.heap.size 9 #[.string ⟨#[]⟩] := by rw [hW4]; exact Blk.new _ _ _
          have B4 : Below V.heap.size V W4 := by rw [hW4]; exact B3.alloc B3.size _
          have L4 : V.heap.size ≤ W3.heap.size := B3.size
          refine walk_one 7 (by kernel_rfl) (do_lone (v := .pointer (some ⟨W3.heap.size, 0, none⟩)) (w' := W4) 7 rfl (by kernel_rfl) (by rw [hW4]; exact ex_alloc_cell 9 (.string ⟨#[]⟩) (by kernel_rfl) rfl (fun _ => by kernel_rfl)) B4 ?_)
          clear hW4
          refine walk_one 8 (by kernel_rfl) (do_last 8 rfl (by kernel_rfl) (ex_store_cell 9 (.tmp 3) (.tmp 10) (by kernel_rfl) ⟨W3.heap.size, 0, none⟩ (.string F) (by kernel_rfl) (by kernel_rfl) (store_str _ _ _ F N4_4)) (by kernel_rfl) ?_)
          refine walk_end_at ⟨#[.agg (jnv x), .pointer (some ⟨b0, 0, none⟩), .pointer (some ⟨b1, 0, none⟩), .pointer (some ⟨W3.heap.size, 0, none⟩), .agg (jnv x), .int .u8 (Jn.first x.backup : Int), .string T1, .pointer (some ⟨b0, 2, none⟩), .int .i64 x.id, .int .u8 (i : Int), .string F, undef, undef, undef, undef], []⟩ (by kernel_rfl) (by kernel_rfl) ?_
          have HE := Lib.hid (show V.heap.size ≤ W3.heap.size ∧ Blk (W4.setCell ⟨W3.heap.size, 0, none⟩ (.string F)) W3.heap.size 9 #[.string F] ∧ Below V.heap.size V (W4.setCell ⟨W3.heap.size, 0, none⟩ (.string F)) from ⟨L4, N4_4.set_ 0 _, B4.setCell L4 _⟩)
          clear N4_4
          go_wp2_with fail
          go_meet
          exact ⟨_, rfl, HE.out⟩
        · obtain ⟨W3, hW3⟩ : ∃ w', w' = W2.alloc (.cells #[.string ⟨#[]⟩] 9) := ⟨_, rfl⟩
          have N3_3 : Blk W3 W2.heap.size 9 #[.string ⟨#[]⟩] := by rw [hW3]; exact Blk.new _ _ _
          have B3 : Below V.heap.size V W3 := by rw [hW3]; exact B2.alloc B2.size _
          have L3 : V.heap.size ≤ W2.heap.size := B2.size
          refine do_lone (v := .pointer (some ⟨W2.heap.size, 0, none⟩)) (w' := W3) 7 rfl (by kernel_rfl) (by rw [hW3]; exact ex_alloc_cell 9 (.string ⟨#[]⟩) (by kernel_rfl) rfl (fun _ => by kernel_rfl)) B3 ?_
          clear hW3
          refine walk_one 6 (by kernel_rfl) (do_call 6 rfl (by kernel_rfl) (by kernel_rfl) (answer (Put8_any T1 i _ (by omega) (by omega)) (congrArg Value.string HF.out)) (fun w' h => bel_in B3 h) ?_)
          intro W4 hW4
          have B4 := bel_in B3 hW4
          have N3_4 := N3_3.below hW4 N3_3.lt
          clear hW4 B3 N3_3
          refine walk_one 8 (by kernel_rfl) (do_last 8 rfl (by kernel_rfl) (ex_store_cell 9 (.tmp 3) (.tmp 10) (by kernel_rfl) ⟨W2.heap.size, 0, none⟩ (.string F) (by kernel_rfl) (by kernel_rfl) (store_str _ _ _ F N3_4)) (by kernel_rfl) ?_)
          refine walk_end_at ⟨#[.agg (jnv x), .pointer (some ⟨b0, 0, none⟩), .pointer (some ⟨b1, 0, none⟩), .pointer (some ⟨W2.heap.size, 0, none⟩), .agg (jnv x), .int .u8 (Jn.first x.backup : Int), .string T1, .pointer (some ⟨b0, 2, none⟩), .int .i64 x.id, .int .u8 (i : Int), .string F, undef, undef, undef, undef], []⟩ (by kernel_rfl) (by kernel_rfl) ?_
          have HE := Lib.hid (show V.heap.size ≤ W2.heap.size ∧ Blk (W4.setCell ⟨W2.heap.size, 0, none⟩ (.string F)) W2.heap.size 9 #[.string F] ∧ Below V.heap.size V (W4.setCell ⟨W2.heap.size, 0, none⟩ (.string F)) from ⟨L3, N3_4.set_ 0 _, B4.setCell L3 _⟩)
          clear N3_4
          go_wp2_with fail
          go_meet
          exact ⟨_, rfl, HE.out⟩
      · obtain ⟨W2, hW2⟩ : ∃ w', w' = W1.alloc (.cells #[.string ⟨#[]⟩] 9) := ⟨_, rfl⟩
        have N2_2 : Blk W2 W1.heap.size 9 #[.string ⟨#[]⟩] := by rw [hW2]; exact Blk.new _ _ _
        have B2 : Below V.heap.size V W2 := by rw [hW2]; exact B1.alloc B1.size _
        have L2 : V.heap.size ≤ W1.heap.size := B1.size
        refine do_lone (v := .pointer (some ⟨W1.heap.size, 0, none⟩)) (w' := W2) 7 rfl (by kernel_rfl) (by rw [hW2]; exact ex_alloc_cell 9 (.string ⟨#[]⟩) (by kernel_rfl) rfl (fun _ => by kernel_rfl)) B2 ?_
        clear hW2
        refine walk_one 2 (by kernel_rfl) (do_call 2 rfl (by kernel_rfl) (by kernel_rfl) (answer (Put8_any ⟨#[]⟩ (Jn.first x.backup) _ (by decide) (Jn.first_le _)) (congrArg Value.string H1.out)) (fun w' h => bel_in B2 h) ?_)
        intro W3 hW3
        have B3 := bel_in B2 hW3
        have N2_3 := N2_2.below hW3 N2_2.lt
        clear hW3 B2 N2_2
        refine walk_one 6 (by kernel_rfl) (do_call 6 rfl (by kernel_rfl) (by kernel_rfl) (answer (Put8_any T1 i _ (by omega) (by omega)) (congrArg Value.string HF.out)) (fun w' h => bel_in B3 h) ?_)
        intro W4 hW4
        have B4 := bel_in B3 hW4
        have N2_4 := N2_3.below hW4 N2_3.lt
        clear hW4 B3 N2_3
        refine walk_one 8 (by kernel_rfl) (do_last 8 rfl (by kernel_rfl) (ex_store_cell 9 (.tmp 3) (.tmp 10) (by kernel_rfl) ⟨W1.heap.size, 0, none⟩ (.string F) (by kernel_rfl) (by kernel_rfl) (store_str _ _ _ F N2_4)) (by kernel_rfl) ?_)
        refine walk_end_at ⟨#[.agg (jnv x), .pointer (some ⟨b0, 0, none⟩), .pointer (some ⟨b1, 0, none⟩), .pointer (some ⟨W1.heap.size, 0, none⟩), .agg (jnv x), .int .u8 (Jn.first x.backup : Int), .string T1, .pointer (some ⟨b0, 2, none⟩), .int .i64 x.id, .int .u8 (i : Int), .string F, undef, undef, undef, undef], []⟩ (by kernel_rfl) (by kernel_rfl) ?_
        have HE := Lib.hid (show V.heap.size ≤ W1.heap.size ∧ Blk (W4.setCell ⟨W1.heap.size, 0, none⟩ (.string F)) W1.heap.size 9 #[.string F] ∧ Below V.heap.size V (W4.setCell ⟨W1.heap.size, 0, none⟩ (.string F)) from ⟨L2, N2_4.set_ 0 _, B4.setCell L2 _⟩)
        clear N2_4
        go_wp2_with fail
        go_meet
        exact ⟨_, rfl, HE.out⟩
    · obtain ⟨W1, hW1⟩ : ∃ w', w' = W0.alloc (.cells #[.string ⟨#[]⟩] 9) := ⟨_, rfl⟩
      have N1_1 : Blk W1 W0.heap.size 9 #[.string ⟨#[]⟩] := by rw [hW1]; exact Blk.new _ _ _
      have B1 : Below V.heap.size V W1 := by rw [hW1]; exact B0.alloc B0.size _
      have L1 : V.heap.size ≤ W0.heap.size := B0.size
      refine do_lone (v := .pointer (some ⟨W0.heap.size, 0, none⟩)) (w' := W1) 7 rfl (by kernel_rfl) (by rw [hW1]; exact ex_alloc_cell 9 (.string ⟨#[]⟩) (by kernel_rfl) rfl (fun _ => by kernel_rfl)) B1 ?_
      clear hW1
      refine walk_one 1 (by kernel_rfl) (do_call 1 rfl (by kernel_rfl) (by kernel_rfl) (firstOf_any x _) (fun w' h => bel_in B1 h) ?_)
      intro W2 hW2
      have B2 := bel_in B1 hW2
      have N1_2 := N1_1.below hW2 N1_1.lt
      clear hW2 B1 N1_1
      refine walk_one 2 (by kernel_rfl) (do_call 2 rfl (by kernel_rfl) (by kernel_rfl) (answer (Put8_any ⟨#[]⟩ (Jn.first x.backup) _ (by decide) (Jn.first_le _)) (congrArg Value.string H1.out)) (fun w' h => bel_in B2 h) ?_)
      intro W3 hW3
      have B3 := bel_in B2 hW3
      have N1_3 := N1_2.below hW3 N1_2.lt
      clear hW3 B2 N1_2
      refine walk_one 6 (by kernel_rfl) (do_call 6 rfl (by kernel_rfl) (by kernel_rfl) (answer (Put8_any T1 i _ (by omega) (by omega)) (congrArg Value.string HF.out)) (fun w' h => bel_in B3 h) ?_)
      intro W4 hW4
      have B4 := bel_in B3 hW4
      have N1_4 := N1_3.below hW4 N1_3.lt
      clear hW4 B3 N1_3
      refine walk_one 8 (by kernel_rfl) (do_last 8 rfl (by kernel_rfl) (ex_store_cell 9 (.tmp 3) (.tmp 10) (by kernel_rfl) ⟨W0.heap.size, 0, none⟩ (.string F) (by kernel_rfl) (by kernel_rfl) (store_str _ _ _ F N1_4)) (by kernel_rfl) ?_)
      refine walk_end_at ⟨#[.agg (jnv x), .pointer (some ⟨b0, 0, none⟩), .pointer (some ⟨b1, 0, none⟩), .pointer (some ⟨W0.heap.size, 0, none⟩), .agg (jnv x), .int .u8 (Jn.first x.backup : Int), .string T1, .pointer (some ⟨b0, 2, none⟩), .int .i64 x.id, .int .u8 (i : Int), .string F, undef, undef, undef, undef], []⟩ (by kernel_rfl) (by kernel_rfl) ?_
      have HE := Lib.hid (show V.heap.size ≤ W0.heap.size ∧ Blk (W4.setCell ⟨W0.heap.size, 0, none⟩ (.string F)) W0.heap.size 9 #[.string F] ∧ Below V.heap.size V (W4.setCell ⟨W0.heap.size, 0, none⟩ (.string F)) from ⟨L1, N1_4.set_ 0 _, B4.setCell L1 _⟩)
      clear N1_4
      go_wp2_with fail
      go_meet
      exact ⟨_, rfl, HE.out⟩
  case rest =>
    obtain ⟨g, rfl, hg, hB, hV⟩ := hcut
    obtain ⟨U, hU⟩ : ∃ U, U = wc := ⟨_, rfl⟩
    have hr : Blk wc b1 52 #[.nilFunc, .nilFunc, .nilFunc] := HRV.out.below hV HS.out.2.2.1
    have HR := Lib.hid hr
    have HEND := Lib.hid (show Encs x F w (.agg #[enc1 g b0, enc2 g b0, enc3 g b0]) (wc.setRow b1 #[enc1 g b0, enc2 g b0, enc3 g b0]) from ⟨g, b0, rfl, hB.same (setRow_other wc b1 g _ (by have := HS.out.2.2.1; omega)), (HXV.out.below hV HS.out.2.1).same (setRow_other wc b1 b0 _ HS.out.2.2.2), below_setRow (HBV.out.trans (hV.mono HBV.out.size)) HS.out.1 _⟩)
    have HSE := Lib.hid (setRow_heap _ b1 _ #[enc1 g b0, enc2 g b0, enc3 g b0] _ _ hr)
    clear hB hV hr hU
    go_wp2_with (refine wpList_store_row rfl 52 _ _ rfl b1 #[enc1 g b0, enc2 g b0, enc3 g b0] rfl rfl 52 #[.nilFunc, .nilFunc, .nilFunc] ?_ encs_size rfl (by simp [Value.oneCell']) ?_; exact HR.out)
    exact bodyPost_ret (results_cell_row rfl _ _ b1 52 #[enc1 g b0, enc2 g b0, enc3 g b0] (0, 0) _ rfl HSE.out Tryd.underlying52 rfl encs_size) rfl ⟨_, rfl, HEND.out⟩
/-- What 'Encode' answers. -/
def encV (x : Jn) : Value := .tuple #[.string x.enc.1, .int .i64 x.enc.2]
theorem encV_t (x : Jn) (h : x.May) : encV x = .tuple #[.string (txt x.body), .int .i64 0] := by unfold encV; rw [Jn.enc_t x h]
theorem encV_f (x : Jn) (h : ¬ x.May) : encV x = .tuple #[.string ⟨#[]⟩, .int .i64 2] := by unfold encV; rw [Jn.enc_f x h]
theorem ret_two {P : Program} {fn : Func} {R : Ending → World → Prop} {a : Act} {w : World} (t u : Tmp) (v z : Value) (hf : fn.results = #[.tmp t, .tmp u]) (ht : a.tmps.getD t undef = v) (hu : a.tmps.getD u undef = z) (hd : a.defers = []) (hR : R (.returned (.tuple #[v, z])) w) : bodyPost P fn R .ret a w :=
  bodyPost_ret (by rw [results_tmp2 hf, ht, hu]) hd hR
/-- The first two bytes, and the body of each form, as texts put together. -/
theorem front_txt (x : Jn) : txt (be 1 (Jn.first x.backup)) ++ txt (be 1 x.id.toNat) = txt [UInt8.ofNat (Jn.first x.backup), UInt8.ofNat x.id.toNat] := by
  rw [txt_app]; simp [be]
theorem body_0 (x : Jn) (h : x.form = 0) : txt [UInt8.ofNat (Jn.first x.backup), UInt8.ofNat x.id.toNat] ++ txt (be 4 x.token) ++ txt (be 4 x.nonce) = txt x.body := by
  rw [txt_app, txt_app, Jn.body, Jn.rest, if_pos h]; simp
theorem body_1 (x : Jn) (h : x.form = 1) : txt [UInt8.ofNat (Jn.first x.backup), UInt8.ofNat x.id.toNat] ++ x.mac ++ txt (be 4 x.nonce) = txt x.body := by
  rw [← txt_of x.mac, txt_app, txt_app, Jn.body, Jn.rest, if_neg (by omega), if_pos h]; simp
theorem body_2 (x : Jn) (h : x.form = 2) : txt [UInt8.ofNat (Jn.first x.backup), UInt8.ofNat x.id.toNat] ++ x.mac = txt x.body := by
  rw [← txt_of x.mac, txt_app, Jn.body, Jn.rest, if_neg (by omega), if_neg (by omega)]; simp
set_option maxHeartbeats 1000000 in
set_option maxRecDepth 100000 in
theorem Encode_0 (backup : Bool) (id : Int) (token nonce : Nat) (mac : ByteArray) (hx : Jn.Ok ⟨0, backup, id, token, nonce, mac⟩) (hm : Jn.May ⟨0, backup, id, token, nonce, mac⟩) (w : World) (ht : Tbl w) :
    Calls Tryd.prog 9 #[.agg (jnv ⟨0, backup, id, token, nonce, mac⟩)] w fun e w' => e = .returned (encV ⟨0, backup, id, token, nonce, mac⟩) ∧ Below w.heap.size w w' := by
  rw [encV_t _ hm]
  obtain ⟨T, hT⟩ : ∃ T, T = txt (Jn.body ⟨0, backup, id, token, nonce, mac⟩) := ⟨_, rfl⟩
  rw [← hT]
  have hmm := hm
  obtain ⟨-, ⟨i0, i1⟩, hms, -⟩ := hm
  have i0 : 0 ≤ id := i0
  have i1 : id ≤ 255 := i1
  have hms : mac.size = 0 := hms
  obtain ⟨i, hi⟩ : ∃ i : Nat, id = (i : Int) := ⟨id.toNat, by omega⟩
  have h255 : i ≤ 255 := by omega
  obtain ⟨T1, hT1⟩ : ∃ T, T = txt (be 1 (Jn.first backup)) := ⟨_, rfl⟩
  obtain ⟨F, hF⟩ : ∃ F, F = T1 ++ txt (be 1 i) := ⟨_, rfl⟩
  have hFt : F = txt [UInt8.ofNat (Jn.first backup), UInt8.ofNat id.toNat] := by rw [hF, hT1, show i = id.toNat by omega]; exact front_txt ⟨0, backup, id, token, nonce, mac⟩
  have hFs : F.size ≤ 100 := by rw [hFt, txt_size]; simp
  obtain ⟨A, hA⟩ : ∃ A, A = F ++ txt (be 4 token) := ⟨_, rfl⟩
  have HA := Lib.hid (show F ++ ⟨(be 4 token).toArray⟩ = A from hA.symm)
  have HTT := Lib.hid (show A ++ ⟨(be 4 nonce).toArray⟩ = T by rw [hT, ← body_0 ⟨0, backup, id, token, nonce, mac⟩ rfl, hA, hFt]; rfl)
  have HMS := Lib.hid hms
  have HM := Lib.hid (show Jn.May ⟨0, backup, id, token, nonce, mac⟩ from hmm)
  have HX := Lib.hid hx
  have HI := Lib.hid (show Jn.id ⟨0, backup, id, token, nonce, mac⟩ = (i : Int) from hi)
  have HT1 := Lib.hid (show T1 = txt (be 1 (Jn.first (Jn.backup ⟨0, backup, id, token, nonce, mac⟩))) from hT1)
  have HF := Lib.hid (show T1 ++ ⟨(be 1 i).toArray⟩ = F from hF.symm)
  obtain ⟨w0, hw0⟩ : ∃ w0, w0 = w.alloc (.cells (jnv ⟨0, backup, id, token, nonce, mac⟩) 24) := ⟨_, rfl⟩
  obtain ⟨b0, hb0⟩ : ∃ b0, b0 = w.heap.size := ⟨_, rfl⟩
  have hc0 : Blk w0 b0 24 (jnv ⟨0, backup, id, token, nonce, mac⟩) := by rw [hw0, hb0]; exact Blk.new _ _ _
  have HC0 := Lib.hid hc0
  have HBW := Lib.hid (show Below w.heap.size w w0 by rw [hw0]; exact (Below.refl _ w).alloc (Nat.le_refl _) _)
  have HTB := Lib.hid (show Tbl w0 by rw [hw0]; exact ht.alloc _)
  have HW0 := Lib.hid hw0
  have HB0 := Lib.hid hb0
  have HC1 := hc0
  rw [hw0, hb0] at HC1
  have HCC0 := Lib.hid HC1
  clear hmm hT hms hi hT1 hF hFt hw0 hb0 hc0 ht hx i0 i1 HC1 hA
  go_enter Tryd.func9, Tryd.ntmps9
  go_wp2_with (refine wpList_load_row rfl 24 _ rfl w.heap.size rfl 24 (jnv ⟨0, backup, id, token, nonce, mac⟩) (0, 0) _ ?_ Tryd.underlying24 rfl jn_size ?_; exact HCC0.out)
  rw [← HW0.out, ← HB0.out]
  refine (valid_any ⟨0, backup, id, token, nonce, mac⟩ HX.out _ HTB.out).mono ?_
  rintro e V ⟨rfl, bv⟩
  rw [decide_eq_true HM.out]
  have HC := Lib.hid (HC0.out.below bv HC0.out.lt)
  have HBV := Lib.hid (HBW.out.trans (bv.mono HBW.out.size))
  clear bv HC0 HBW HTB HW0 HCC0
  go_upto_region 3 with fail
  have B0 : Below V.heap.size V V.drew := (Below.refl _ V).drew
  refine held_start (fun W => Below V.heap.size V W) (by kernel_rfl) (n := 8) rfl ?_
  obtain ⟨W0, hW0⟩ : ∃ W0, W0 = V.drew := ⟨_, rfl⟩
  rw [← hW0] at B0 ⊢
  clear hW0
  refine held_free 0 (.agg (jnv ⟨0, backup, id, token, nonce, mac⟩)) rfl (by kernel_rfl) (by kernel_rfl) (by kernel_rfl) (by kernel_rfl) B0 (fun W b => exec_row_ 24 (.tmp 1) (by kernel_rfl) b0 (by kernel_rfl) 24 _ (0, 0) _ (HC.out.below b HC.out.lt) Tryd.underlying24 rfl jn_size) ?_
  refine held_free 2 (.pointer (some ⟨b0, 0, none⟩)) rfl (by kernel_rfl) (by kernel_rfl) (by kernel_rfl) (by kernel_rfl) B0 (fun _ _ => ex_field (v := .pointer (some ⟨b0, 0, none⟩)) 24 (.tmp 1) 0 (by kernel_rfl) (by kernel_rfl) (by kernel_rfl)) ?_
  refine held_free 3 (.int .i64 0) rfl (by kernel_rfl) (by kernel_rfl) (by kernel_rfl) (by kernel_rfl) B0 (fun W b => ex_load 3 (.tmp 9) (by kernel_rfl) ⟨b0, 0, none⟩ (by kernel_rfl) (by kernel_rfl) ((HC.out.below b HC.out.lt).cell 0)) ?_
  refine held_call_ex 1 rfl (by kernel_rfl) (by kernel_rfl) (by kernel_rfl) (encoders_any ⟨0, backup, id, token, nonce, mac⟩ i HI.out h255 T1 F HT1.out HF.out _) (fun v w' h => bel_in B0 h.below) ?_
  intro v0 W1 hW1
  obtain ⟨g, c, rfl, hg, hc, hb⟩ := hW1
  have B1 := bel_in B0 hb
  clear B0 hb
  have HG := Lib.hid hg
  have HCC := Lib.hid hc
  clear hg hc
  refine held_free 4 (enc1 g c) rfl (by kernel_rfl) (by kernel_rfl) (by kernel_rfl) (by kernel_rfl) B1 (fun _ _ => by kernel_rfl) ?_
  refine held_call 5 rfl (by kernel_rfl) (by kernel_rfl) (by kernel_rfl) (enc1_any ⟨0, backup, id, token, nonce, mac⟩ HX.out F (by omega) A T HA.out HTT.out g c _ HG.out HCC.out) (fun w' h => bel_in B1 h) ?_
  intro W2 hW2
  have B2 := bel_in B1 hW2
  clear hW2 B1
  refine held_free 6 (.string T) rfl (by kernel_rfl) (by kernel_rfl) (by kernel_rfl) (by kernel_rfl) B2 (fun _ _ => by kernel_rfl) ?_
  refine held_free 7 (.int .i64 0) rfl (by kernel_rfl) (by kernel_rfl) (by kernel_rfl) (by kernel_rfl) B2 (fun _ _ => by kernel_rfl) ?_
  refine held_end (by kernel_rfl) ?_
  go_wp2_with fail
  exact ret_two 2 3 (.string T) (.int .i64 0) (by kernel_rfl) (by kernel_rfl) (by kernel_rfl) (by kernel_rfl) ⟨rfl, by have q := HBV.out.trans (B2.mono HBV.out.size); first | exact q | (rw [HB0.out]; exact q)⟩
set_option maxHeartbeats 1000000 in
set_option maxRecDepth 100000 in
theorem Encode_1 (backup : Bool) (id : Int) (token nonce : Nat) (mac : ByteArray) (hx : Jn.Ok ⟨1, backup, id, token, nonce, mac⟩) (hm : Jn.May ⟨1, backup, id, token, nonce, mac⟩) (w : World) (ht : Tbl w) :
    Calls Tryd.prog 9 #[.agg (jnv ⟨1, backup, id, token, nonce, mac⟩)] w fun e w' => e = .returned (encV ⟨1, backup, id, token, nonce, mac⟩) ∧ Below w.heap.size w w' := by
  rw [encV_t _ hm]
  obtain ⟨T, hT⟩ : ∃ T, T = txt (Jn.body ⟨1, backup, id, token, nonce, mac⟩) := ⟨_, rfl⟩
  rw [← hT]
  have hmm := hm
  obtain ⟨-, ⟨i0, i1⟩, hms, -⟩ := hm
  have i0 : 0 ≤ id := i0
  have i1 : id ≤ 255 := i1
  have hms : mac.size = 8 := hms
  obtain ⟨i, hi⟩ : ∃ i : Nat, id = (i : Int) := ⟨id.toNat, by omega⟩
  have h255 : i ≤ 255 := by omega
  obtain ⟨T1, hT1⟩ : ∃ T, T = txt (be 1 (Jn.first backup)) := ⟨_, rfl⟩
  obtain ⟨F, hF⟩ : ∃ F, F = T1 ++ txt (be 1 i) := ⟨_, rfl⟩
  have hFt : F = txt [UInt8.ofNat (Jn.first backup), UInt8.ofNat id.toNat] := by rw [hF, hT1, show i = id.toNat by omega]; exact front_txt ⟨1, backup, id, token, nonce, mac⟩
  have hFs : F.size ≤ 100 := by rw [hFt, txt_size]; simp
  obtain ⟨A, hA⟩ : ∃ A, A = F ++ mac := ⟨_, rfl⟩
  have HA := Lib.hid (show A = F ++ mac from hA)
  have HTT := Lib.hid (show A ++ ⟨(be 4 nonce).toArray⟩ = T by rw [hT, ← body_1 ⟨1, backup, id, token, nonce, mac⟩ rfl, hA, hFt]; rfl)
  have HMS := Lib.hid hms
  have HM := Lib.hid (show Jn.May ⟨1, backup, id, token, nonce, mac⟩ from hmm)
  have HX := Lib.hid hx
  have HI := Lib.hid (show Jn.id ⟨1, backup, id, token, nonce, mac⟩ = (i : Int) from hi)
  have HT1 := Lib.hid (show T1 = txt (be 1 (Jn.first (Jn.backup ⟨1, backup, id, token, nonce, mac⟩))) from hT1)
  have HF := Lib.hid (show T1 ++ ⟨(be 1 i).toArray⟩ = F from hF.symm)
  obtain ⟨w0, hw0⟩ : ∃ w0, w0 = w.alloc (.cells (jnv ⟨1, backup, id, token, nonce, mac⟩) 24) := ⟨_, rfl⟩
  obtain ⟨b0, hb0⟩ : ∃ b0, b0 = w.heap.size := ⟨_, rfl⟩
  have hc0 : Blk w0 b0 24 (jnv ⟨1, backup, id, token, nonce, mac⟩) := by rw [hw0, hb0]; exact Blk.new _ _ _
  have HC0 := Lib.hid hc0
  have HBW := Lib.hid (show Below w.heap.size w w0 by rw [hw0]; exact (Below.refl _ w).alloc (Nat.le_refl _) _)
  have HTB := Lib.hid (show Tbl w0 by rw [hw0]; exact ht.alloc _)
  have HW0 := Lib.hid hw0
  have HB0 := Lib.hid hb0
  have HC1 := hc0
  rw [hw0, hb0] at HC1
  have HCC0 := Lib.hid HC1
  clear hmm hT hms hi hT1 hF hFt hw0 hb0 hc0 ht hx i0 i1 HC1 hA
  go_enter Tryd.func9, Tryd.ntmps9
  go_wp2_with (refine wpList_load_row rfl 24 _ rfl w.heap.size rfl 24 (jnv ⟨1, backup, id, token, nonce, mac⟩) (0, 0) _ ?_ Tryd.underlying24 rfl jn_size ?_; exact HCC0.out)
  rw [← HW0.out, ← HB0.out]
  refine (valid_any ⟨1, backup, id, token, nonce, mac⟩ HX.out _ HTB.out).mono ?_
  rintro e V ⟨rfl, bv⟩
  rw [decide_eq_true HM.out]
  have HC := Lib.hid (HC0.out.below bv HC0.out.lt)
  have HBV := Lib.hid (HBW.out.trans (bv.mono HBW.out.size))
  clear bv HC0 HBW HTB HW0 HCC0
  go_upto_region 3 with fail
  have B0 : Below V.heap.size V V.drew := (Below.refl _ V).drew
  refine held_start (fun W => Below V.heap.size V W) (by kernel_rfl) (n := 8) rfl ?_
  obtain ⟨W0, hW0⟩ : ∃ W0, W0 = V.drew := ⟨_, rfl⟩
  rw [← hW0] at B0 ⊢
  clear hW0
  refine held_free 0 (.agg (jnv ⟨1, backup, id, token, nonce, mac⟩)) rfl (by kernel_rfl) (by kernel_rfl) (by kernel_rfl) (by kernel_rfl) B0 (fun W b => exec_row_ 24 (.tmp 1) (by kernel_rfl) b0 (by kernel_rfl) 24 _ (0, 0) _ (HC.out.below b HC.out.lt) Tryd.underlying24 rfl jn_size) ?_
  refine held_free 2 (.pointer (some ⟨b0, 0, none⟩)) rfl (by kernel_rfl) (by kernel_rfl) (by kernel_rfl) (by kernel_rfl) B0 (fun _ _ => ex_field (v := .pointer (some ⟨b0, 0, none⟩)) 24 (.tmp 1) 0 (by kernel_rfl) (by kernel_rfl) (by kernel_rfl)) ?_
  refine held_free 3 (.int .i64 1) rfl (by kernel_rfl) (by kernel_rfl) (by kernel_rfl) (by kernel_rfl) B0 (fun W b => ex_load 3 (.tmp 9) (by kernel_rfl) ⟨b0, 0, none⟩ (by kernel_rfl) (by kernel_rfl) ((HC.out.below b HC.out.lt).cell 0)) ?_
  refine held_call_ex 1 rfl (by kernel_rfl) (by kernel_rfl) (by kernel_rfl) (encoders_any ⟨1, backup, id, token, nonce, mac⟩ i HI.out h255 T1 F HT1.out HF.out _) (fun v w' h => bel_in B0 h.below) ?_
  intro v0 W1 hW1
  obtain ⟨g, c, rfl, hg, hc, hb⟩ := hW1
  have B1 := bel_in B0 hb
  clear B0 hb
  have HG := Lib.hid hg
  have HCC := Lib.hid hc
  clear hg hc
  refine held_free 4 (enc2 g c) rfl (by kernel_rfl) (by kernel_rfl) (by kernel_rfl) (by kernel_rfl) B1 (fun _ _ => by kernel_rfl) ?_
  refine held_call 5 rfl (by kernel_rfl) (by kernel_rfl) (by kernel_rfl) (enc2_any ⟨1, backup, id, token, nonce, mac⟩ HX.out F (by omega) (by have := HMS.out; show mac.size ≤ 100; omega) A T HA.out HTT.out g c _ HG.out HCC.out) (fun w' h => bel_in B1 h) ?_
  intro W2 hW2
  have B2 := bel_in B1 hW2
  clear hW2 B1
  refine held_free 6 (.string T) rfl (by kernel_rfl) (by kernel_rfl) (by kernel_rfl) (by kernel_rfl) B2 (fun _ _ => by kernel_rfl) ?_
  refine held_free 7 (.int .i64 0) rfl (by kernel_rfl) (by kernel_rfl) (by kernel_rfl) (by kernel_rfl) B2 (fun _ _ => by kernel_rfl) ?_
  refine held_end (by kernel_rfl) ?_
  go_wp2_with fail
  exact ret_two 2 3 (.string T) (.int .i64 0) (by kernel_rfl) (by kernel_rfl) (by kernel_rfl) (by kernel_rfl) ⟨rfl, by have q := HBV.out.trans (B2.mono HBV.out.size); first | exact q | (rw [HB0.out]; exact q)⟩
set_option maxHeartbeats 1000000 in
set_option maxRecDepth 100000 in
theorem Encode_2 (backup : Bool) (id : Int) (token nonce : Nat) (mac : ByteArray) (hx : Jn.Ok ⟨2, backup, id, token, nonce, mac⟩) (hm : Jn.May ⟨2, backup, id, token, nonce, mac⟩) (w : World) (ht : Tbl w) :
    Calls Tryd.prog 9 #[.agg (jnv ⟨2, backup, id, token, nonce, mac⟩)] w fun e w' => e = .returned (encV ⟨2, backup, id, token, nonce, mac⟩) ∧ Below w.heap.size w w' := by
  rw [encV_t _ hm]
  obtain ⟨T, hT⟩ : ∃ T, T = txt (Jn.body ⟨2, backup, id, token, nonce, mac⟩) := ⟨_, rfl⟩
  rw [← hT]
  have hmm := hm
  obtain ⟨-, ⟨i0, i1⟩, hms, -⟩ := hm
  have i0 : 0 ≤ id := i0
  have i1 : id ≤ 255 := i1
  have hms : mac.size = 20 := hms
  obtain ⟨i, hi⟩ : ∃ i : Nat, id = (i : Int) := ⟨id.toNat, by omega⟩
  have h255 : i ≤ 255 := by omega
  obtain ⟨T1, hT1⟩ : ∃ T, T = txt (be 1 (Jn.first backup)) := ⟨_, rfl⟩
  obtain ⟨F, hF⟩ : ∃ F, F = T1 ++ txt (be 1 i) := ⟨_, rfl⟩
  have hFt : F = txt [UInt8.ofNat (Jn.first backup), UInt8.ofNat id.toNat] := by rw [hF, hT1, show i = id.toNat by omega]; exact front_txt ⟨2, backup, id, token, nonce, mac⟩
  have hFs : F.size ≤ 100 := by rw [hFt, txt_size]; simp
  have HTT := Lib.hid (show T = F ++ mac by rw [hT, ← body_2 ⟨2, backup, id, token, nonce, mac⟩ rfl, hFt])
  have HMS := Lib.hid hms
  have HM := Lib.hid (show Jn.May ⟨2, backup, id, token, nonce, mac⟩ from hmm)
  have HX := Lib.hid hx
  have HI := Lib.hid (show Jn.id ⟨2, backup, id, token, nonce, mac⟩ = (i : Int) from hi)
  have HT1 := Lib.hid (show T1 = txt (be 1 (Jn.first (Jn.backup ⟨2, backup, id, token, nonce, mac⟩))) from hT1)
  have HF := Lib.hid (show T1 ++ ⟨(be 1 i).toArray⟩ = F from hF.symm)
  obtain ⟨w0, hw0⟩ : ∃ w0, w0 = w.alloc (.cells (jnv ⟨2, backup, id, token, nonce, mac⟩) 24) := ⟨_, rfl⟩
  obtain ⟨b0, hb0⟩ : ∃ b0, b0 = w.heap.size := ⟨_, rfl⟩
  have hc0 : Blk w0 b0 24 (jnv ⟨2, backup, id, token, nonce, mac⟩) := by rw [hw0, hb0]; exact Blk.new _ _ _
  have HC0 := Lib.hid hc0
  have HBW := Lib.hid (show Below w.heap.size w w0 by rw [hw0]; exact (Below.refl _ w).alloc (Nat.le_refl _) _)
  have HTB := Lib.hid (show Tbl w0 by rw [hw0]; exact ht.alloc _)
  have HW0 := Lib.hid hw0
  have HB0 := Lib.hid hb0
  have HC1 := hc0
  rw [hw0, hb0] at HC1
  have HCC0 := Lib.hid HC1
  clear hmm hT hms hi hT1 hF hFt hw0 hb0 hc0 ht hx i0 i1 HC1
  go_enter Tryd.func9, Tryd.ntmps9
  go_wp2_with (refine wpList_load_row rfl 24 _ rfl w.heap.size rfl 24 (jnv ⟨2, backup, id, token, nonce, mac⟩) (0, 0) _ ?_ Tryd.underlying24 rfl jn_size ?_; exact HCC0.out)
  rw [← HW0.out, ← HB0.out]
  refine (valid_any ⟨2, backup, id, token, nonce, mac⟩ HX.out _ HTB.out).mono ?_
  rintro e V ⟨rfl, bv⟩
  rw [decide_eq_true HM.out]
  have HC := Lib.hid (HC0.out.below bv HC0.out.lt)
  have HBV := Lib.hid (HBW.out.trans (bv.mono HBW.out.size))
  clear bv HC0 HBW HTB HW0 HCC0
  go_upto_region 3 with fail
  have B0 : Below V.heap.size V V.drew := (Below.refl _ V).drew
  refine held_start (fun W => Below V.heap.size V W) (by kernel_rfl) (n := 8) rfl ?_
  obtain ⟨W0, hW0⟩ : ∃ W0, W0 = V.drew := ⟨_, rfl⟩
  rw [← hW0] at B0 ⊢
  clear hW0
  refine held_free 0 (.agg (jnv ⟨2, backup, id, token, nonce, mac⟩)) rfl (by kernel_rfl) (by kernel_rfl) (by kernel_rfl) (by kernel_rfl) B0 (fun W b => exec_row_ 24 (.tmp 1) (by kernel_rfl) b0 (by kernel_rfl) 24 _ (0, 0) _ (HC.out.below b HC.out.lt) Tryd.underlying24 rfl jn_size) ?_
  refine held_free 2 (.pointer (some ⟨b0, 0, none⟩)) rfl (by kernel_rfl) (by kernel_rfl) (by kernel_rfl) (by kernel_rfl) B0 (fun _ _ => ex_field (v := .pointer (some ⟨b0, 0, none⟩)) 24 (.tmp 1) 0 (by kernel_rfl) (by kernel_rfl) (by kernel_rfl)) ?_
  refine held_free 3 (.int .i64 2) rfl (by kernel_rfl) (by kernel_rfl) (by kernel_rfl) (by kernel_rfl) B0 (fun W b => ex_load 3 (.tmp 9) (by kernel_rfl) ⟨b0, 0, none⟩ (by kernel_rfl) (by kernel_rfl) ((HC.out.below b HC.out.lt).cell 0)) ?_
  refine held_call_ex 1 rfl (by kernel_rfl) (by kernel_rfl) (by kernel_rfl) (encoders_any ⟨2, backup, id, token, nonce, mac⟩ i HI.out h255 T1 F HT1.out HF.out _) (fun v w' h => bel_in B0 h.below) ?_
  intro v0 W1 hW1
  obtain ⟨g, c, rfl, hg, hc, hb⟩ := hW1
  have B1 := bel_in B0 hb
  clear B0 hb
  have HG := Lib.hid hg
  have HCC := Lib.hid hc
  clear hg hc
  refine held_free 4 (enc3 g c) rfl (by kernel_rfl) (by kernel_rfl) (by kernel_rfl) (by kernel_rfl) B1 (fun _ _ => by kernel_rfl) ?_
  refine held_call 5 rfl (by kernel_rfl) (by kernel_rfl) (by kernel_rfl) (enc3_any ⟨2, backup, id, token, nonce, mac⟩ HX.out F (by omega) (by have := HMS.out; show mac.size ≤ 100; omega) T HTT.out g c _ HG.out HCC.out) (fun w' h => bel_in B1 h) ?_
  intro W2 hW2
  have B2 := bel_in B1 hW2
  clear hW2 B1
  refine held_free 6 (.string T) rfl (by kernel_rfl) (by kernel_rfl) (by kernel_rfl) (by kernel_rfl) B2 (fun _ _ => by kernel_rfl) ?_
  refine held_free 7 (.int .i64 0) rfl (by kernel_rfl) (by kernel_rfl) (by kernel_rfl) (by kernel_rfl) B2 (fun _ _ => by kernel_rfl) ?_
  refine held_end (by kernel_rfl) ?_
  go_wp2_with fail
  exact ret_two 2 3 (.string T) (.int .i64 0) (by kernel_rfl) (by kernel_rfl) (by kernel_rfl) (by kernel_rfl) ⟨rfl, by have q := HBV.out.trans (B2.mono HBV.out.size); first | exact q | (rw [HB0.out]; exact q)⟩
theorem Encode_no (x : Jn) (hx : x.Ok) (hm : ¬ x.May) (w : World) (ht : Tbl w) :
    Calls Tryd.prog 9 #[.agg (jnv x)] w fun e w' => e = .returned (encV x) ∧ Below w.heap.size w w' := by
  rw [encV_f x hm]
  have HC := Lib.hid (Blk.new w 24 (jnv x))
  have HB := Lib.hid ((Below.refl _ w).alloc (Nat.le_refl _) (.cells (jnv x) 24))
  have HT := Lib.hid (ht.alloc (.cells (jnv x) 24))
  have HM := Lib.hid hm
  have HX := Lib.hid hx
  clear hm hx ht
  go_enter Tryd.func9, Tryd.ntmps9
  go_wp2_with (refine wpList_load_row rfl 24 _ rfl w.heap.size rfl 24 (jnv x) (0, 0) _ ?_ Tryd.underlying24 rfl jn_size ?_; exact HC.out)
  refine (valid_any x HX.out _ HT.out).mono ?_
  rintro e V ⟨rfl, bv⟩
  rw [decide_eq_false HM.out]
  have HBV := Lib.hid (HB.out.trans (bv.mono HB.out.size))
  clear bv
  go_wp2_with fail
  exact ret_two 2 3 (.string ⟨#[]⟩) (.int .i64 2) rfl rfl rfl rfl ⟨rfl, HBV.out⟩
theorem Encode_any (x : Jn) (hx : x.Ok) (w : World) (ht : Tbl w) :
    Calls Tryd.prog 9 #[.agg (jnv x)] w fun e w' => e = .returned (encV x) ∧ Below w.heap.size w w' := by
  by_cases hm : x.May
  · obtain ⟨form, backup, id, token, nonce, mac⟩ := x
    have hf := Jn.forms hm
    rcases hf with h | h | h
    · have h : form = 0 := h
      subst h
      exact Encode_0 backup id token nonce mac hx hm w ht
    · have h : form = 1 := h
      subst h
      exact Encode_1 backup id token nonce mac hx hm w ht
    · have h : form = 2 := h
      subst h
      exact Encode_2 backup id token nonce mac hx hm w ht
  · exact Encode_no x hx hm w ht
end Go.Proofs.YthnokkcpmikajaaDoor
