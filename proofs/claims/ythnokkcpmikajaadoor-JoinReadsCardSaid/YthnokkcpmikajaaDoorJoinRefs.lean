/-
  The document's own May and Encode of layer 10 (package plaitref10), each by its walk.
-/
import Derived.Test.YthnokkcpmikajaaDoorJoinEnc
import Derived.Test.YthnokkcpmikajaaDoorCurRefs
namespace Go.Proofs.YthnokkcpmikajaaDoor
open Go.ChangeShapes Go.WideShapes Go.ChangeAt Go.RowKit
set_option linter.unusedVariables false

set_option maxHeartbeats 1000000 in
set_option maxRecDepth 100000 in
theorem may_0 (backup : Bool) (id : Int) (token nonce : Nat) (mac : ByteArray) (w : World) :
    Calls Tryd.prog 20 #[.agg (jnv ⟨0, backup, id, token, nonce, mac⟩)] w fun e w' => e = .returned (.bool (decide (Jn.May ⟨0, backup, id, token, nonce, mac⟩))) ∧ Below w.heap.size w w' := by
  obtain ⟨M, hM⟩ : ∃ M, M = decide (Jn.May ⟨0, backup, id, token, nonce, mac⟩) := ⟨_, rfl⟩
  rw [← hM]
  have HB := Lib.hid (show ∀ o : Obj, Below w.heap.size w (w.alloc o) from fun o => (Below.refl _ w).alloc (Nat.le_refl _) o)
  by_cases h1 : id < 0
  · have HM := Lib.hid (show M = false from hM.trans (decide_eq_false fun m => absurd (show 0 ≤ id from m.2.1.1) (by omega)))
    clear hM
    go_enter Tryd.func20, Tryd.ntmps20
    go_wp2_with fail
    go_ret; exact ⟨by rw [HM.out]; rfl, HB.out _⟩
  · skip
    by_cases h2 : 255 < id
    · have HM := Lib.hid (show M = false from hM.trans (decide_eq_false fun m => absurd (show id ≤ 255 from m.2.1.2) (by omega)))
      clear hM
      go_enter Tryd.func20, Tryd.ntmps20
      go_wp2_with fail
      go_ret; exact ⟨by rw [HM.out]; rfl, HB.out _⟩
    · skip
      by_cases h3 : ¬ mac.toList = []
      · have HM := Lib.hid (show M = false from hM.trans (decide_eq_false fun m => h3 (by rw [ByteArray.toList_eq]; have : mac.size = 0 := m.2.2.1; exact List.eq_nil_of_length_eq_zero (by rw [len_data]; exact this))))
        have e3 : mac.toList.isEmpty = false := by simpa using h3
        clear hM
        go_enter Tryd.func20, Tryd.ntmps20
        go_wp2_with fail
        go_ret; exact ⟨by rw [HM.out]; rfl, HB.out _⟩
      · have h3 : mac.toList = [] := Decidable.of_not_not h3
        have e3 : mac.toList.isEmpty = true := by rw [h3]; rfl
        have HM := Lib.hid (show M = true from hM.trans (decide_eq_true ⟨by simp, ⟨show 0 ≤ id by omega, show id ≤ 255 by omega⟩, show mac.size = 0 by rw [← len_data, ← ByteArray.toList_eq, h3]; rfl, fun q => absurd (show (0 : Int) = 1 from q) (by decide), fun q => absurd (show (0 : Int) = 2 from q) (by decide)⟩))
        clear hM
        go_enter Tryd.func20, Tryd.ntmps20
        go_wp2_with fail
        go_ret; exact ⟨by rw [HM.out]; rfl, HB.out _⟩
set_option maxHeartbeats 1000000 in
set_option maxRecDepth 100000 in
theorem may_1 (backup : Bool) (id : Int) (token nonce : Nat) (mac : ByteArray) (w : World) :
    Calls Tryd.prog 20 #[.agg (jnv ⟨1, backup, id, token, nonce, mac⟩)] w fun e w' => e = .returned (.bool (decide (Jn.May ⟨1, backup, id, token, nonce, mac⟩))) ∧ Below w.heap.size w w' := by
  obtain ⟨M, hM⟩ : ∃ M, M = decide (Jn.May ⟨1, backup, id, token, nonce, mac⟩) := ⟨_, rfl⟩
  rw [← hM]
  have HB := Lib.hid (show ∀ o : Obj, Below w.heap.size w (w.alloc o) from fun o => (Below.refl _ w).alloc (Nat.le_refl _) o)
  by_cases h1 : id < 0
  · have HM := Lib.hid (show M = false from hM.trans (decide_eq_false fun m => absurd (show 0 ≤ id from m.2.1.1) (by omega)))
    clear hM
    go_enter Tryd.func20, Tryd.ntmps20
    go_wp2_with fail
    go_ret; exact ⟨by rw [HM.out]; rfl, HB.out _⟩
  · skip
    by_cases h2 : 255 < id
    · have HM := Lib.hid (show M = false from hM.trans (decide_eq_false fun m => absurd (show id ≤ 255 from m.2.1.2) (by omega)))
      clear hM
      go_enter Tryd.func20, Tryd.ntmps20
      go_wp2_with fail
      go_ret; exact ⟨by rw [HM.out]; rfl, HB.out _⟩
    · skip
      by_cases h3 : ¬ mac.size = 8
      · have HM := Lib.hid (show M = false from hM.trans (decide_eq_false fun m => h3 m.2.2.1))
        have e3 : ((mac.size : Int) == 8) = false := by rw [beq_eq_false_iff_ne]; omega
        clear hM
        go_enter Tryd.func20, Tryd.ntmps20
        go_wp2_with fail
        go_ret; exact ⟨by rw [HM.out]; rfl, HB.out _⟩
      · have e3 : ((mac.size : Int) == 8) = true := by rw [beq_iff_eq]; omega
        by_cases h4 : ¬ token = 0
        · have HM := Lib.hid (show M = false from hM.trans (decide_eq_false fun m => h4 (m.2.2.2.1 rfl)))
          have e4 : ((token : Int) == 0) = false := by rw [beq_eq_false_iff_ne]; omega
          clear hM
          go_enter Tryd.func20, Tryd.ntmps20
          go_wp2_with fail
          go_ret; exact ⟨by rw [HM.out]; rfl, HB.out _⟩
        · have e4 : ((token : Int) == 0) = true := by rw [beq_iff_eq]; omega
          have HM := Lib.hid (show M = true from hM.trans (decide_eq_true ⟨by simp, ⟨show 0 ≤ id by omega, show id ≤ 255 by omega⟩, show mac.size = 8 by omega, fun _ => show token = 0 by omega, fun q => absurd (show (1 : Int) = 2 from q) (by decide)⟩))
          clear hM
          go_enter Tryd.func20, Tryd.ntmps20
          go_wp2_with fail
          go_ret; exact ⟨by rw [HM.out]; rfl, HB.out _⟩
set_option maxHeartbeats 1000000 in
set_option maxRecDepth 100000 in
theorem may_2 (backup : Bool) (id : Int) (token nonce : Nat) (mac : ByteArray) (w : World) :
    Calls Tryd.prog 20 #[.agg (jnv ⟨2, backup, id, token, nonce, mac⟩)] w fun e w' => e = .returned (.bool (decide (Jn.May ⟨2, backup, id, token, nonce, mac⟩))) ∧ Below w.heap.size w w' := by
  obtain ⟨M, hM⟩ : ∃ M, M = decide (Jn.May ⟨2, backup, id, token, nonce, mac⟩) := ⟨_, rfl⟩
  rw [← hM]
  have HB := Lib.hid (show ∀ o : Obj, Below w.heap.size w (w.alloc o) from fun o => (Below.refl _ w).alloc (Nat.le_refl _) o)
  by_cases h1 : id < 0
  · have HM := Lib.hid (show M = false from hM.trans (decide_eq_false fun m => absurd (show 0 ≤ id from m.2.1.1) (by omega)))
    clear hM
    go_enter Tryd.func20, Tryd.ntmps20
    go_wp2_with fail
    go_ret; exact ⟨by rw [HM.out]; rfl, HB.out _⟩
  · skip
    by_cases h2 : 255 < id
    · have HM := Lib.hid (show M = false from hM.trans (decide_eq_false fun m => absurd (show id ≤ 255 from m.2.1.2) (by omega)))
      clear hM
      go_enter Tryd.func20, Tryd.ntmps20
      go_wp2_with fail
      go_ret; exact ⟨by rw [HM.out]; rfl, HB.out _⟩
    · skip
      by_cases h3 : ¬ mac.size = 20
      · have HM := Lib.hid (show M = false from hM.trans (decide_eq_false fun m => h3 m.2.2.1))
        have e3 : ((mac.size : Int) == 20) = false := by rw [beq_eq_false_iff_ne]; omega
        clear hM
        go_enter Tryd.func20, Tryd.ntmps20
        go_wp2_with fail
        go_ret; exact ⟨by rw [HM.out]; rfl, HB.out _⟩
      · have e3 : ((mac.size : Int) == 20) = true := by rw [beq_iff_eq]; omega
        by_cases hb : backup = true
        · have HM := Lib.hid (show M = false from hM.trans (decide_eq_false fun m => absurd (show backup = false from (m.2.2.2.2 rfl).1) (by rw [hb]; decide)))
          clear hM
          go_enter Tryd.func20, Tryd.ntmps20
          go_wp2_with fail
          go_ret; exact ⟨by rw [HM.out]; rfl, HB.out _⟩
        · have hb : backup = false := by simpa using hb
          by_cases h5 : ¬ id = 0
          · have HM := Lib.hid (show M = false from hM.trans (decide_eq_false fun m => h5 (m.2.2.2.2 rfl).2.1))
            have e5 : ((id : Int) == 0) = false := by rw [beq_eq_false_iff_ne]; omega
            clear hM
            go_enter Tryd.func20, Tryd.ntmps20
            go_wp2_with fail
            go_ret; exact ⟨by rw [HM.out]; rfl, HB.out _⟩
          · have e5 : ((id : Int) == 0) = true := by rw [beq_iff_eq]; omega
            by_cases h6 : ¬ token = 0
            · have HM := Lib.hid (show M = false from hM.trans (decide_eq_false fun m => h6 (m.2.2.2.2 rfl).2.2.1))
              have e6 : ((token : Int) == 0) = false := by rw [beq_eq_false_iff_ne]; omega
              clear hM
              go_enter Tryd.func20, Tryd.ntmps20
              go_wp2_with fail
              go_ret; exact ⟨by rw [HM.out]; rfl, HB.out _⟩
            · have e6 : ((token : Int) == 0) = true := by rw [beq_iff_eq]; omega
              by_cases h7 : ¬ nonce = 0
              · have HM := Lib.hid (show M = false from hM.trans (decide_eq_false fun m => h7 (m.2.2.2.2 rfl).2.2.2))
                have e7 : ((nonce : Int) == 0) = false := by rw [beq_eq_false_iff_ne]; omega
                clear hM
                go_enter Tryd.func20, Tryd.ntmps20
                go_wp2_with fail
                go_ret; exact ⟨by rw [HM.out]; rfl, HB.out _⟩
              · have e7 : ((nonce : Int) == 0) = true := by rw [beq_iff_eq]; omega
                have HM := Lib.hid (show M = true from hM.trans (decide_eq_true ⟨by simp, ⟨show 0 ≤ id by omega, show id ≤ 255 by omega⟩, show mac.size = 20 by omega, fun q => absurd (show (2 : Int) = 1 from q) (by decide), fun _ => ⟨hb, show id = 0 by omega, show token = 0 by omega, show nonce = 0 by omega⟩⟩))
                clear hM
                go_enter Tryd.func20, Tryd.ntmps20
                go_wp2_with fail
                go_ret; exact ⟨by rw [HM.out]; rfl, HB.out _⟩
set_option maxHeartbeats 1000000 in
set_option maxRecDepth 100000 in
theorem may_no (form : Int) (backup : Bool) (id : Int) (token nonce : Nat) (mac : ByteArray) (w : World) (h0 : ¬ form = 0) (h1' : ¬ form = 1) (h2' : ¬ form = 2) :
    Calls Tryd.prog 20 #[.agg (jnv ⟨form, backup, id, token, nonce, mac⟩)] w fun e w' => e = .returned (.bool (decide (Jn.May ⟨form, backup, id, token, nonce, mac⟩))) ∧ Below w.heap.size w w' := by
  obtain ⟨M, hM⟩ : ∃ M, M = decide (Jn.May ⟨form, backup, id, token, nonce, mac⟩) := ⟨_, rfl⟩
  rw [← hM]
  have HB := Lib.hid (show ∀ o : Obj, Below w.heap.size w (w.alloc o) from fun o => (Below.refl _ w).alloc (Nat.le_refl _) o)
  have e0 : (form == 0) = false := by rw [beq_eq_false_iff_ne]; exact h0
  have e1 : (form == 1) = false := by rw [beq_eq_false_iff_ne]; exact h1'
  have e2 : (form == 2) = false := by rw [beq_eq_false_iff_ne]; exact h2'
  by_cases h1 : id < 0
  · have HM := Lib.hid (show M = false from hM.trans (decide_eq_false fun m => absurd (show 0 ≤ id from m.2.1.1) (by omega)))
    clear hM
    go_enter Tryd.func20, Tryd.ntmps20
    go_wp2_with fail
    go_ret; exact ⟨by rw [HM.out]; rfl, HB.out _⟩
  · skip
    by_cases h2 : 255 < id
    · have HM := Lib.hid (show M = false from hM.trans (decide_eq_false fun m => absurd (show id ≤ 255 from m.2.1.2) (by omega)))
      clear hM
      go_enter Tryd.func20, Tryd.ntmps20
      go_wp2_with fail
      go_ret; exact ⟨by rw [HM.out]; rfl, HB.out _⟩
    · skip
      have HM := Lib.hid (show M = false from hM.trans (decide_eq_false fun m => by have := m.1; have : 0 ≤ form ∧ form < 3 := this; omega))
      clear hM
      go_enter Tryd.func20, Tryd.ntmps20
      go_wp2_with fail
      go_ret; exact ⟨by rw [HM.out]; rfl, HB.out _⟩
theorem May_ref (x : Jn) (w : World) :
    Calls Tryd.prog 20 #[.agg (jnv x)] w fun e w' => e = .returned (.bool (decide x.May)) ∧ Below w.heap.size w w' := by
  obtain ⟨form, backup, id, token, nonce, mac⟩ := x
  by_cases h0 : form = 0
  · subst h0; exact may_0 backup id token nonce mac w
  by_cases h1 : form = 1
  · subst h1; exact may_1 backup id token nonce mac w
  by_cases h2 : form = 2
  · subst h2; exact may_2 backup id token nonce mac w
  · exact may_no form backup id token nonce mac w h0 h1 h2
theorem conv_i64_u64 (n : Int) (u : Nat) (h : n % 18446744073709551616 = (u : Int)) (w : World) : (convert 3 54 (.int .i64 n)).run Tryd.prog w = .ok (.int .u64 (u : Int)) w := by
  rw [run_convert_int w 3 54 .i64 _ (by kernel_rfl) (by kernel_rfl), show Tryd.prog.intKind 54 = .u64 by kernel_rfl, IntKind.wrap_u64, h]
theorem conv_u32_u64 (u : Nat) (h : u ≤ 4294967295) (w : World) : (convert 22 54 (.int .u32 (u : Int))).run Tryd.prog w = .ok (.int .u64 (u : Int)) w := by
  rw [run_convert_int w 22 54 .u32 _ (by kernel_rfl) (by kernel_rfl), show Tryd.prog.intKind 54 = .u64 by kernel_rfl, IntKind.wrap_u64]
  congr 2; omega
theorem u64_small (u : Nat) (h : u ≤ 4294967295) : (u : Int) % 18446744073709551616 = (u : Int) := by omega
set_option maxHeartbeats 1000000 in
set_option maxRecDepth 100000 in
theorem EncodeR_0t (id : Int) (token nonce : Nat) (mac : ByteArray) (hx : Jn.Ok ⟨0, true, id, token, nonce, mac⟩) (hm : Jn.May ⟨0, true, id, token, nonce, mac⟩) (w : World) :
    Calls Tryd.prog 10 #[.agg (jnv ⟨0, true, id, token, nonce, mac⟩)] w fun e w' => e = .returned (encV ⟨0, true, id, token, nonce, mac⟩) ∧ Below w.heap.size w w' := by
  rw [encV_t _ hm]
  obtain ⟨T, hT⟩ : ∃ T, T = txt (Jn.body ⟨0, true, id, token, nonce, mac⟩) := ⟨_, rfl⟩
  rw [← hT]
  have hmm := hm
  obtain ⟨-, ⟨i0, i1⟩, hms, -⟩ := hm
  have i0 : 0 ≤ id := i0
  have i1 : id ≤ 255 := i1
  have hms : mac.size = 0 := hms
  obtain ⟨i, hi⟩ : ∃ i : Nat, id = (i : Int) := ⟨id.toNat, by omega⟩
  have h255 : i ≤ 255 := by omega
  obtain ⟨T1, hT1⟩ : ∃ T, T = txt (be 1 17) := ⟨_, rfl⟩
  have hT1s : T1.size = 1 := by rw [hT1]; exact be_len 1 _
  obtain ⟨F, hF⟩ : ∃ F, F = T1 ++ txt (be 1 i) := ⟨_, rfl⟩
  have hFt : F = txt [UInt8.ofNat (Jn.first true), UInt8.ofNat id.toNat] := by rw [hF, hT1, show i = id.toNat by omega]; exact front_txt ⟨0, true, id, token, nonce, mac⟩
  have hFs : F.size ≤ 100 := by rw [hFt, txt_size]; simp
  obtain ⟨A, hA⟩ : ∃ A, A = F ++ txt (be 4 token) := ⟨_, rfl⟩
  have hAs : A.size ≤ 200 := by rw [hA, ByteArray.size_append, be_len]; omega
  have HA := Lib.hid (show F ++ ⟨(be 4 token).toArray⟩ = A from hA.symm)
  have HTT := Lib.hid (show A ++ ⟨(be 4 nonce).toArray⟩ = T by rw [hT, ← body_0 ⟨0, true, id, token, nonce, mac⟩ rfl, hA, hFt]; rfl)
  have HM := Lib.hid hmm
  have htk : token ≤ 4294967295 := hx.token
  have hnc : nonce ≤ 4294967295 := hx.nonce
  have HTK := Lib.hid htk
  have HNC := Lib.hid hnc
  have HI := Lib.hid (show id % 18446744073709551616 = (i : Int) by omega)
  have HT1 := Lib.hid (show (⟨#[]⟩ : ByteArray) ++ ⟨(be 1 17).toArray⟩ = T1 by rw [none_and, hT1]; rfl)
  have HF := Lib.hid (show T1 ++ ⟨(be 1 i).toArray⟩ = F from hF.symm)
  obtain ⟨w0, hw0⟩ : ∃ w0, w0 = w.alloc (.cells (jnv ⟨0, true, id, token, nonce, mac⟩) 24) := ⟨_, rfl⟩
  obtain ⟨b0, hb0⟩ : ∃ b0, b0 = w.heap.size := ⟨_, rfl⟩
  have hc0 : Blk w0 b0 24 (jnv ⟨0, true, id, token, nonce, mac⟩) := by rw [hw0, hb0]; exact Blk.new _ _ _
  have HC0 := Lib.hid hc0
  have HBW := Lib.hid (show Below w.heap.size w w0 by rw [hw0]; exact (Below.refl _ w).alloc (Nat.le_refl _) _)
  have HW0 := Lib.hid hw0
  have HB0 := Lib.hid hb0
  have HC1 := hc0
  rw [hw0, hb0] at HC1
  have HCC0 := Lib.hid HC1
  clear hT hms hi hT1 hF hFt hw0 hb0 hc0 hx i0 i1 HC1 hmm htk hnc hA
  go_enter Tryd.func10, Tryd.ntmps10
  go_wp2_with (refine wpList_load_row rfl 24 _ rfl w.heap.size rfl 24 (jnv ⟨0, true, id, token, nonce, mac⟩) (0, 0) _ ?_ Tryd.underlying24 rfl jn_size ?_; exact HCC0.out)
  rw [← HW0.out, ← HB0.out]
  refine (May_ref ⟨0, true, id, token, nonce, mac⟩ _).mono ?_
  rintro e V ⟨rfl, bv⟩
  rw [decide_eq_true HM.out]
  have HC := Lib.hid (HC0.out.below bv HC0.out.lt)
  have HBV := Lib.hid (HBW.out.trans (bv.mono HBW.out.size))
  have c1 := HC.out.cell 1
  simp only [List.getElem?_toArray, List.getElem?_cons_zero, List.getElem?_cons_succ] at c1
  clear bv HC0 HBW HW0 HCC0
  go_upto_region 6 with fail
  clear c1
  have B0 : Below V.heap.size V V.drew := (Below.refl _ V).drew
  refine held_start (fun W => Below V.heap.size V W) (by kernel_rfl) (n := 7) rfl ?_
  obtain ⟨W0, hW0⟩ : ∃ W0, W0 = V.drew := ⟨_, rfl⟩
  rw [← hW0] at B0 ⊢
  clear hW0
  refine held_free 0 (.int .u64 17) rfl (by kernel_rfl) (by kernel_rfl) (by kernel_rfl) (by kernel_rfl) B0 (fun _ _ => by kernel_rfl) ?_
  refine held_free 2 (.pointer (some ⟨b0, 2, none⟩)) rfl (by kernel_rfl) (by kernel_rfl) (by kernel_rfl) (by kernel_rfl) B0 (fun _ _ => ex_field (v := .pointer (some ⟨b0, 0, none⟩)) 24 (.tmp 1) 2 (by kernel_rfl) (by kernel_rfl) (by kernel_rfl)) ?_
  refine held_free 3 (.int .i64 id) rfl (by kernel_rfl) (by kernel_rfl) (by kernel_rfl) (by kernel_rfl) B0 (fun W b => ex_load 3 (.tmp 13) (by kernel_rfl) ⟨b0, 2, none⟩ (by kernel_rfl) (by kernel_rfl) ((HC.out.below b HC.out.lt).cell 2)) ?_
  refine held_free 4 (.int .u64 (i : Int)) rfl (by kernel_rfl) (by kernel_rfl) (by kernel_rfl) (by kernel_rfl) B0 (fun W _ => ex_convert_to (v := .int .i64 id) 3 54 (.tmp 14) (by kernel_rfl) (by kernel_rfl) (conv_i64_u64 id i HI.out W)) ?_
  refine held_call 1 rfl (by kernel_rfl) (by kernel_rfl) (by kernel_rfl) (answer (Put_ref ⟨#[]⟩ 17 1 _ (by decide) (by decide) (by decide)) (congrArg Value.string HT1.out)) (fun w' h => bel_in B0 h) ?_
  intro W1 hW1
  have B1 := bel_in B0 hW1
  clear hW1 B0
  refine held_call 5 rfl (by kernel_rfl) (by kernel_rfl) (by kernel_rfl) (answer (Put_ref T1 i 1 _ (by omega) (by omega) (by decide)) (congrArg Value.string HF.out)) (fun w' h => bel_in B1 h) ?_
  intro W2 hW2
  have B2 := bel_in B1 hW2
  clear hW2 B1
  refine held_free 6 (.string F) rfl (by kernel_rfl) (by kernel_rfl) (by kernel_rfl) (by kernel_rfl) B2 (fun _ _ => by kernel_rfl) ?_
  refine held_end_at ⟨#[.agg (jnv ⟨0, true, id, token, nonce, mac⟩), .pointer (some ⟨b0, 0, none⟩), .string ⟨#[]⟩, .int .i64 0, .int .u64 17, .string F, .agg (jnv ⟨0, true, id, token, nonce, mac⟩), .bool true, .bool false, .pointer (some ⟨b0, 1, none⟩), .bool true, .int .u64 17, .string T1, .pointer (some ⟨b0, 2, none⟩), .int .i64 id, .int .u64 (i : Int), .string F, undef, undef, undef, undef, undef, undef, undef, undef, undef, undef, undef, undef, undef, undef, undef, undef, undef, undef, undef, undef, undef, undef, undef, undef, undef, undef, undef], []⟩ (by kernel_rfl) (by kernel_rfl) ?_
  have HCV := Lib.hid (HC.out.below B2 HC.out.lt)
  have HBZ := Lib.hid (show Below w.heap.size w W2 by have q := HBV.out.trans (B2.mono HBV.out.size); first | exact q | (rw [HB0.out]; exact q))
  obtain ⟨Y, hY⟩ : ∃ Y, Y = W2 := ⟨_, rfl⟩
  rw [← hY] at HCV HBZ
  have HYE := Lib.hid hY
  clear hY B2
  have c0 := HCV.out.cell 0
  have c4 := HCV.out.cell 4
  have c5 := HCV.out.cell 5
  simp only [List.getElem?_toArray, List.getElem?_cons_zero, List.getElem?_cons_succ] at c0 c4 c5
  rw [← HYE.out]
  go_upto_region 9 with fail
  have B0 : Below Y.heap.size Y Y.drew := (Below.refl _ Y).drew
  refine held_start (fun W => Below Y.heap.size Y W) (by kernel_rfl) (n := 11) rfl ?_
  obtain ⟨W0, hW0⟩ : ∃ W0, W0 = Y.drew := ⟨_, rfl⟩
  rw [← hW0] at B0 ⊢
  clear hW0
  refine held_free 0 (.string F) rfl (by kernel_rfl) (by kernel_rfl) (by kernel_rfl) (by kernel_rfl) B0 (fun _ _ => by kernel_rfl) ?_
  refine held_free 1 (.pointer (some ⟨b0, 3, none⟩)) rfl (by kernel_rfl) (by kernel_rfl) (by kernel_rfl) (by kernel_rfl) B0 (fun _ _ => ex_field (v := .pointer (some ⟨b0, 0, none⟩)) 24 (.tmp 1) 3 (by kernel_rfl) (by kernel_rfl) (by kernel_rfl)) ?_
  refine held_free 2 (.int .u32 (token : Int)) rfl (by kernel_rfl) (by kernel_rfl) (by kernel_rfl) (by kernel_rfl) B0 (fun W b => ex_load 22 (.tmp 22) (by kernel_rfl) ⟨b0, 3, none⟩ (by kernel_rfl) (by kernel_rfl) ((HCV.out.below b HCV.out.lt).cell 3)) ?_
  refine held_free 3 (.int .u64 (token : Int)) rfl (by kernel_rfl) (by kernel_rfl) (by kernel_rfl) (by kernel_rfl) B0 (fun W _ => ex_convert_to (v := .int .u32 (token : Int)) 22 54 (.tmp 23) (by kernel_rfl) (by kernel_rfl) (conv_u32_u64 token HTK.out W)) ?_
  refine held_free 5 (.pointer (some ⟨b0, 4, none⟩)) rfl (by kernel_rfl) (by kernel_rfl) (by kernel_rfl) (by kernel_rfl) B0 (fun _ _ => ex_field (v := .pointer (some ⟨b0, 0, none⟩)) 24 (.tmp 1) 4 (by kernel_rfl) (by kernel_rfl) (by kernel_rfl)) ?_
  refine held_free 6 (.int .u32 (nonce : Int)) rfl (by kernel_rfl) (by kernel_rfl) (by kernel_rfl) (by kernel_rfl) B0 (fun W b => ex_load 22 (.tmp 26) (by kernel_rfl) ⟨b0, 4, none⟩ (by kernel_rfl) (by kernel_rfl) ((HCV.out.below b HCV.out.lt).cell 4)) ?_
  refine held_free 7 (.int .u64 (nonce : Int)) rfl (by kernel_rfl) (by kernel_rfl) (by kernel_rfl) (by kernel_rfl) B0 (fun W _ => ex_convert_to (v := .int .u32 (nonce : Int)) 22 54 (.tmp 27) (by kernel_rfl) (by kernel_rfl) (conv_u32_u64 nonce HNC.out W)) ?_
  refine held_call 4 rfl (by kernel_rfl) (by kernel_rfl) (by kernel_rfl) (answer (Put_ref F token 4 _ (by omega) (by have := HTK.out; omega) (by decide)) (congrArg Value.string HA.out)) (fun w' h => bel_in B0 h) ?_
  intro W1 hW1
  have B1 := bel_in B0 hW1
  clear hW1 B0
  refine held_call 8 rfl (by kernel_rfl) (by kernel_rfl) (by kernel_rfl) (answer (Put_ref A nonce 4 _ (by omega) (by have := HNC.out; omega) (by decide)) (congrArg Value.string HTT.out)) (fun w' h => bel_in B1 h) ?_
  intro W2 hW2
  have B2 := bel_in B1 hW2
  clear hW2 B1
  refine held_free 9 (.string T) rfl (by kernel_rfl) (by kernel_rfl) (by kernel_rfl) (by kernel_rfl) B2 (fun _ _ => by kernel_rfl) ?_
  refine held_free 10 (.int .i64 0) rfl (by kernel_rfl) (by kernel_rfl) (by kernel_rfl) (by kernel_rfl) B2 (fun _ _ => by kernel_rfl) ?_
  refine held_end (by kernel_rfl) ?_
  go_wp2_with fail
  exact ret_two 2 3 (.string T) (.int .i64 0) (by kernel_rfl) (by kernel_rfl) (by kernel_rfl) (by kernel_rfl) ⟨rfl, HBZ.out.trans (B2.mono HBZ.out.size)⟩
set_option maxHeartbeats 1000000 in
set_option maxRecDepth 100000 in
theorem EncodeR_0f (id : Int) (token nonce : Nat) (mac : ByteArray) (hx : Jn.Ok ⟨0, false, id, token, nonce, mac⟩) (hm : Jn.May ⟨0, false, id, token, nonce, mac⟩) (w : World) :
    Calls Tryd.prog 10 #[.agg (jnv ⟨0, false, id, token, nonce, mac⟩)] w fun e w' => e = .returned (encV ⟨0, false, id, token, nonce, mac⟩) ∧ Below w.heap.size w w' := by
  rw [encV_t _ hm]
  obtain ⟨T, hT⟩ : ∃ T, T = txt (Jn.body ⟨0, false, id, token, nonce, mac⟩) := ⟨_, rfl⟩
  rw [← hT]
  have hmm := hm
  obtain ⟨-, ⟨i0, i1⟩, hms, -⟩ := hm
  have i0 : 0 ≤ id := i0
  have i1 : id ≤ 255 := i1
  have hms : mac.size = 0 := hms
  obtain ⟨i, hi⟩ : ∃ i : Nat, id = (i : Int) := ⟨id.toNat, by omega⟩
  have h255 : i ≤ 255 := by omega
  obtain ⟨T1, hT1⟩ : ∃ T, T = txt (be 1 16) := ⟨_, rfl⟩
  have hT1s : T1.size = 1 := by rw [hT1]; exact be_len 1 _
  obtain ⟨F, hF⟩ : ∃ F, F = T1 ++ txt (be 1 i) := ⟨_, rfl⟩
  have hFt : F = txt [UInt8.ofNat (Jn.first false), UInt8.ofNat id.toNat] := by rw [hF, hT1, show i = id.toNat by omega]; exact front_txt ⟨0, false, id, token, nonce, mac⟩
  have hFs : F.size ≤ 100 := by rw [hFt, txt_size]; simp
  obtain ⟨A, hA⟩ : ∃ A, A = F ++ txt (be 4 token) := ⟨_, rfl⟩
  have hAs : A.size ≤ 200 := by rw [hA, ByteArray.size_append, be_len]; omega
  have HA := Lib.hid (show F ++ ⟨(be 4 token).toArray⟩ = A from hA.symm)
  have HTT := Lib.hid (show A ++ ⟨(be 4 nonce).toArray⟩ = T by rw [hT, ← body_0 ⟨0, false, id, token, nonce, mac⟩ rfl, hA, hFt]; rfl)
  have HM := Lib.hid hmm
  have htk : token ≤ 4294967295 := hx.token
  have hnc : nonce ≤ 4294967295 := hx.nonce
  have HTK := Lib.hid htk
  have HNC := Lib.hid hnc
  have HI := Lib.hid (show id % 18446744073709551616 = (i : Int) by omega)
  have HT1 := Lib.hid (show (⟨#[]⟩ : ByteArray) ++ ⟨(be 1 16).toArray⟩ = T1 by rw [none_and, hT1]; rfl)
  have HF := Lib.hid (show T1 ++ ⟨(be 1 i).toArray⟩ = F from hF.symm)
  obtain ⟨w0, hw0⟩ : ∃ w0, w0 = w.alloc (.cells (jnv ⟨0, false, id, token, nonce, mac⟩) 24) := ⟨_, rfl⟩
  obtain ⟨b0, hb0⟩ : ∃ b0, b0 = w.heap.size := ⟨_, rfl⟩
  have hc0 : Blk w0 b0 24 (jnv ⟨0, false, id, token, nonce, mac⟩) := by rw [hw0, hb0]; exact Blk.new _ _ _
  have HC0 := Lib.hid hc0
  have HBW := Lib.hid (show Below w.heap.size w w0 by rw [hw0]; exact (Below.refl _ w).alloc (Nat.le_refl _) _)
  have HW0 := Lib.hid hw0
  have HB0 := Lib.hid hb0
  have HC1 := hc0
  rw [hw0, hb0] at HC1
  have HCC0 := Lib.hid HC1
  clear hT hms hi hT1 hF hFt hw0 hb0 hc0 hx i0 i1 HC1 hmm htk hnc hA
  go_enter Tryd.func10, Tryd.ntmps10
  go_wp2_with (refine wpList_load_row rfl 24 _ rfl w.heap.size rfl 24 (jnv ⟨0, false, id, token, nonce, mac⟩) (0, 0) _ ?_ Tryd.underlying24 rfl jn_size ?_; exact HCC0.out)
  rw [← HW0.out, ← HB0.out]
  refine (May_ref ⟨0, false, id, token, nonce, mac⟩ _).mono ?_
  rintro e V ⟨rfl, bv⟩
  rw [decide_eq_true HM.out]
  have HC := Lib.hid (HC0.out.below bv HC0.out.lt)
  have HBV := Lib.hid (HBW.out.trans (bv.mono HBW.out.size))
  have c1 := HC.out.cell 1
  simp only [List.getElem?_toArray, List.getElem?_cons_zero, List.getElem?_cons_succ] at c1
  clear bv HC0 HBW HW0 HCC0
  go_upto_region 6 with fail
  clear c1
  have B0 : Below V.heap.size V V.drew := (Below.refl _ V).drew
  refine held_start (fun W => Below V.heap.size V W) (by kernel_rfl) (n := 7) rfl ?_
  obtain ⟨W0, hW0⟩ : ∃ W0, W0 = V.drew := ⟨_, rfl⟩
  rw [← hW0] at B0 ⊢
  clear hW0
  refine held_free 0 (.int .u64 16) rfl (by kernel_rfl) (by kernel_rfl) (by kernel_rfl) (by kernel_rfl) B0 (fun _ _ => by kernel_rfl) ?_
  refine held_free 2 (.pointer (some ⟨b0, 2, none⟩)) rfl (by kernel_rfl) (by kernel_rfl) (by kernel_rfl) (by kernel_rfl) B0 (fun _ _ => ex_field (v := .pointer (some ⟨b0, 0, none⟩)) 24 (.tmp 1) 2 (by kernel_rfl) (by kernel_rfl) (by kernel_rfl)) ?_
  refine held_free 3 (.int .i64 id) rfl (by kernel_rfl) (by kernel_rfl) (by kernel_rfl) (by kernel_rfl) B0 (fun W b => ex_load 3 (.tmp 13) (by kernel_rfl) ⟨b0, 2, none⟩ (by kernel_rfl) (by kernel_rfl) ((HC.out.below b HC.out.lt).cell 2)) ?_
  refine held_free 4 (.int .u64 (i : Int)) rfl (by kernel_rfl) (by kernel_rfl) (by kernel_rfl) (by kernel_rfl) B0 (fun W _ => ex_convert_to (v := .int .i64 id) 3 54 (.tmp 14) (by kernel_rfl) (by kernel_rfl) (conv_i64_u64 id i HI.out W)) ?_
  refine held_call 1 rfl (by kernel_rfl) (by kernel_rfl) (by kernel_rfl) (answer (Put_ref ⟨#[]⟩ 16 1 _ (by decide) (by decide) (by decide)) (congrArg Value.string HT1.out)) (fun w' h => bel_in B0 h) ?_
  intro W1 hW1
  have B1 := bel_in B0 hW1
  clear hW1 B0
  refine held_call 5 rfl (by kernel_rfl) (by kernel_rfl) (by kernel_rfl) (answer (Put_ref T1 i 1 _ (by omega) (by omega) (by decide)) (congrArg Value.string HF.out)) (fun w' h => bel_in B1 h) ?_
  intro W2 hW2
  have B2 := bel_in B1 hW2
  clear hW2 B1
  refine held_free 6 (.string F) rfl (by kernel_rfl) (by kernel_rfl) (by kernel_rfl) (by kernel_rfl) B2 (fun _ _ => by kernel_rfl) ?_
  refine held_end_at ⟨#[.agg (jnv ⟨0, false, id, token, nonce, mac⟩), .pointer (some ⟨b0, 0, none⟩), .string ⟨#[]⟩, .int .i64 0, .int .u64 16, .string F, .agg (jnv ⟨0, false, id, token, nonce, mac⟩), .bool true, .bool false, .pointer (some ⟨b0, 1, none⟩), .bool false, .int .u64 16, .string T1, .pointer (some ⟨b0, 2, none⟩), .int .i64 id, .int .u64 (i : Int), .string F, undef, undef, undef, undef, undef, undef, undef, undef, undef, undef, undef, undef, undef, undef, undef, undef, undef, undef, undef, undef, undef, undef, undef, undef, undef, undef, undef], []⟩ (by kernel_rfl) (by kernel_rfl) ?_
  have HCV := Lib.hid (HC.out.below B2 HC.out.lt)
  have HBZ := Lib.hid (show Below w.heap.size w W2 by have q := HBV.out.trans (B2.mono HBV.out.size); first | exact q | (rw [HB0.out]; exact q))
  obtain ⟨Y, hY⟩ : ∃ Y, Y = W2 := ⟨_, rfl⟩
  rw [← hY] at HCV HBZ
  have HYE := Lib.hid hY
  clear hY B2
  have c0 := HCV.out.cell 0
  have c4 := HCV.out.cell 4
  have c5 := HCV.out.cell 5
  simp only [List.getElem?_toArray, List.getElem?_cons_zero, List.getElem?_cons_succ] at c0 c4 c5
  rw [← HYE.out]
  go_upto_region 9 with fail
  have B0 : Below Y.heap.size Y Y.drew := (Below.refl _ Y).drew
  refine held_start (fun W => Below Y.heap.size Y W) (by kernel_rfl) (n := 11) rfl ?_
  obtain ⟨W0, hW0⟩ : ∃ W0, W0 = Y.drew := ⟨_, rfl⟩
  rw [← hW0] at B0 ⊢
  clear hW0
  refine held_free 0 (.string F) rfl (by kernel_rfl) (by kernel_rfl) (by kernel_rfl) (by kernel_rfl) B0 (fun _ _ => by kernel_rfl) ?_
  refine held_free 1 (.pointer (some ⟨b0, 3, none⟩)) rfl (by kernel_rfl) (by kernel_rfl) (by kernel_rfl) (by kernel_rfl) B0 (fun _ _ => ex_field (v := .pointer (some ⟨b0, 0, none⟩)) 24 (.tmp 1) 3 (by kernel_rfl) (by kernel_rfl) (by kernel_rfl)) ?_
  refine held_free 2 (.int .u32 (token : Int)) rfl (by kernel_rfl) (by kernel_rfl) (by kernel_rfl) (by kernel_rfl) B0 (fun W b => ex_load 22 (.tmp 22) (by kernel_rfl) ⟨b0, 3, none⟩ (by kernel_rfl) (by kernel_rfl) ((HCV.out.below b HCV.out.lt).cell 3)) ?_
  refine held_free 3 (.int .u64 (token : Int)) rfl (by kernel_rfl) (by kernel_rfl) (by kernel_rfl) (by kernel_rfl) B0 (fun W _ => ex_convert_to (v := .int .u32 (token : Int)) 22 54 (.tmp 23) (by kernel_rfl) (by kernel_rfl) (conv_u32_u64 token HTK.out W)) ?_
  refine held_free 5 (.pointer (some ⟨b0, 4, none⟩)) rfl (by kernel_rfl) (by kernel_rfl) (by kernel_rfl) (by kernel_rfl) B0 (fun _ _ => ex_field (v := .pointer (some ⟨b0, 0, none⟩)) 24 (.tmp 1) 4 (by kernel_rfl) (by kernel_rfl) (by kernel_rfl)) ?_
  refine held_free 6 (.int .u32 (nonce : Int)) rfl (by kernel_rfl) (by kernel_rfl) (by kernel_rfl) (by kernel_rfl) B0 (fun W b => ex_load 22 (.tmp 26) (by kernel_rfl) ⟨b0, 4, none⟩ (by kernel_rfl) (by kernel_rfl) ((HCV.out.below b HCV.out.lt).cell 4)) ?_
  refine held_free 7 (.int .u64 (nonce : Int)) rfl (by kernel_rfl) (by kernel_rfl) (by kernel_rfl) (by kernel_rfl) B0 (fun W _ => ex_convert_to (v := .int .u32 (nonce : Int)) 22 54 (.tmp 27) (by kernel_rfl) (by kernel_rfl) (conv_u32_u64 nonce HNC.out W)) ?_
  refine held_call 4 rfl (by kernel_rfl) (by kernel_rfl) (by kernel_rfl) (answer (Put_ref F token 4 _ (by omega) (by have := HTK.out; omega) (by decide)) (congrArg Value.string HA.out)) (fun w' h => bel_in B0 h) ?_
  intro W1 hW1
  have B1 := bel_in B0 hW1
  clear hW1 B0
  refine held_call 8 rfl (by kernel_rfl) (by kernel_rfl) (by kernel_rfl) (answer (Put_ref A nonce 4 _ (by omega) (by have := HNC.out; omega) (by decide)) (congrArg Value.string HTT.out)) (fun w' h => bel_in B1 h) ?_
  intro W2 hW2
  have B2 := bel_in B1 hW2
  clear hW2 B1
  refine held_free 9 (.string T) rfl (by kernel_rfl) (by kernel_rfl) (by kernel_rfl) (by kernel_rfl) B2 (fun _ _ => by kernel_rfl) ?_
  refine held_free 10 (.int .i64 0) rfl (by kernel_rfl) (by kernel_rfl) (by kernel_rfl) (by kernel_rfl) B2 (fun _ _ => by kernel_rfl) ?_
  refine held_end (by kernel_rfl) ?_
  go_wp2_with fail
  exact ret_two 2 3 (.string T) (.int .i64 0) (by kernel_rfl) (by kernel_rfl) (by kernel_rfl) (by kernel_rfl) ⟨rfl, HBZ.out.trans (B2.mono HBZ.out.size)⟩
set_option maxHeartbeats 1000000 in
set_option maxRecDepth 100000 in
theorem EncodeR_1t (id : Int) (token nonce : Nat) (mac : ByteArray) (hx : Jn.Ok ⟨1, true, id, token, nonce, mac⟩) (hm : Jn.May ⟨1, true, id, token, nonce, mac⟩) (w : World) :
    Calls Tryd.prog 10 #[.agg (jnv ⟨1, true, id, token, nonce, mac⟩)] w fun e w' => e = .returned (encV ⟨1, true, id, token, nonce, mac⟩) ∧ Below w.heap.size w w' := by
  rw [encV_t _ hm]
  obtain ⟨T, hT⟩ : ∃ T, T = txt (Jn.body ⟨1, true, id, token, nonce, mac⟩) := ⟨_, rfl⟩
  rw [← hT]
  have hmm := hm
  obtain ⟨-, ⟨i0, i1⟩, hms, -⟩ := hm
  have i0 : 0 ≤ id := i0
  have i1 : id ≤ 255 := i1
  have hms : mac.size = 8 := hms
  obtain ⟨i, hi⟩ : ∃ i : Nat, id = (i : Int) := ⟨id.toNat, by omega⟩
  have h255 : i ≤ 255 := by omega
  obtain ⟨T1, hT1⟩ : ∃ T, T = txt (be 1 17) := ⟨_, rfl⟩
  have hT1s : T1.size = 1 := by rw [hT1]; exact be_len 1 _
  obtain ⟨F, hF⟩ : ∃ F, F = T1 ++ txt (be 1 i) := ⟨_, rfl⟩
  have hFt : F = txt [UInt8.ofNat (Jn.first true), UInt8.ofNat id.toNat] := by rw [hF, hT1, show i = id.toNat by omega]; exact front_txt ⟨1, true, id, token, nonce, mac⟩
  have hFs : F.size ≤ 100 := by rw [hFt, txt_size]; simp
  obtain ⟨A, hA⟩ : ∃ A, A = F ++ mac := ⟨_, rfl⟩
  have hAs : A.size ≤ 200 := by rw [hA, ByteArray.size_append]; omega
  have HA := Lib.hid (show A = F ++ mac from hA)
  have HTT := Lib.hid (show A ++ ⟨(be 4 nonce).toArray⟩ = T by rw [hT, ← body_1 ⟨1, true, id, token, nonce, mac⟩ rfl, hA, hFt]; rfl)
  have hcat := fun W => run_string_add (P := Tryd.prog) W F mac (by omega) (by omega)
  have HM := Lib.hid hmm
  have htk : token ≤ 4294967295 := hx.token
  have hnc : nonce ≤ 4294967295 := hx.nonce
  have HTK := Lib.hid htk
  have HNC := Lib.hid hnc
  have HI := Lib.hid (show id % 18446744073709551616 = (i : Int) by omega)
  have HT1 := Lib.hid (show (⟨#[]⟩ : ByteArray) ++ ⟨(be 1 17).toArray⟩ = T1 by rw [none_and, hT1]; rfl)
  have HF := Lib.hid (show T1 ++ ⟨(be 1 i).toArray⟩ = F from hF.symm)
  obtain ⟨w0, hw0⟩ : ∃ w0, w0 = w.alloc (.cells (jnv ⟨1, true, id, token, nonce, mac⟩) 24) := ⟨_, rfl⟩
  obtain ⟨b0, hb0⟩ : ∃ b0, b0 = w.heap.size := ⟨_, rfl⟩
  have hc0 : Blk w0 b0 24 (jnv ⟨1, true, id, token, nonce, mac⟩) := by rw [hw0, hb0]; exact Blk.new _ _ _
  have HC0 := Lib.hid hc0
  have HBW := Lib.hid (show Below w.heap.size w w0 by rw [hw0]; exact (Below.refl _ w).alloc (Nat.le_refl _) _)
  have HW0 := Lib.hid hw0
  have HB0 := Lib.hid hb0
  have HC1 := hc0
  rw [hw0, hb0] at HC1
  have HCC0 := Lib.hid HC1
  clear hT hms hi hT1 hF hFt hw0 hb0 hc0 hx i0 i1 HC1 hmm htk hnc hA
  go_enter Tryd.func10, Tryd.ntmps10
  go_wp2_with (refine wpList_load_row rfl 24 _ rfl w.heap.size rfl 24 (jnv ⟨1, true, id, token, nonce, mac⟩) (0, 0) _ ?_ Tryd.underlying24 rfl jn_size ?_; exact HCC0.out)
  rw [← HW0.out, ← HB0.out]
  refine (May_ref ⟨1, true, id, token, nonce, mac⟩ _).mono ?_
  rintro e V ⟨rfl, bv⟩
  rw [decide_eq_true HM.out]
  have HC := Lib.hid (HC0.out.below bv HC0.out.lt)
  have HBV := Lib.hid (HBW.out.trans (bv.mono HBW.out.size))
  have c1 := HC.out.cell 1
  simp only [List.getElem?_toArray, List.getElem?_cons_zero, List.getElem?_cons_succ] at c1
  clear bv HC0 HBW HW0 HCC0
  go_upto_region 6 with fail
  clear c1
  have B0 : Below V.heap.size V V.drew := (Below.refl _ V).drew
  refine held_start (fun W => Below V.heap.size V W) (by kernel_rfl) (n := 7) rfl ?_
  obtain ⟨W0, hW0⟩ : ∃ W0, W0 = V.drew := ⟨_, rfl⟩
  rw [← hW0] at B0 ⊢
  clear hW0
  refine held_free 0 (.int .u64 17) rfl (by kernel_rfl) (by kernel_rfl) (by kernel_rfl) (by kernel_rfl) B0 (fun _ _ => by kernel_rfl) ?_
  refine held_free 2 (.pointer (some ⟨b0, 2, none⟩)) rfl (by kernel_rfl) (by kernel_rfl) (by kernel_rfl) (by kernel_rfl) B0 (fun _ _ => ex_field (v := .pointer (some ⟨b0, 0, none⟩)) 24 (.tmp 1) 2 (by kernel_rfl) (by kernel_rfl) (by kernel_rfl)) ?_
  refine held_free 3 (.int .i64 id) rfl (by kernel_rfl) (by kernel_rfl) (by kernel_rfl) (by kernel_rfl) B0 (fun W b => ex_load 3 (.tmp 13) (by kernel_rfl) ⟨b0, 2, none⟩ (by kernel_rfl) (by kernel_rfl) ((HC.out.below b HC.out.lt).cell 2)) ?_
  refine held_free 4 (.int .u64 (i : Int)) rfl (by kernel_rfl) (by kernel_rfl) (by kernel_rfl) (by kernel_rfl) B0 (fun W _ => ex_convert_to (v := .int .i64 id) 3 54 (.tmp 14) (by kernel_rfl) (by kernel_rfl) (conv_i64_u64 id i HI.out W)) ?_
  refine held_call 1 rfl (by kernel_rfl) (by kernel_rfl) (by kernel_rfl) (answer (Put_ref ⟨#[]⟩ 17 1 _ (by decide) (by decide) (by decide)) (congrArg Value.string HT1.out)) (fun w' h => bel_in B0 h) ?_
  intro W1 hW1
  have B1 := bel_in B0 hW1
  clear hW1 B0
  refine held_call 5 rfl (by kernel_rfl) (by kernel_rfl) (by kernel_rfl) (answer (Put_ref T1 i 1 _ (by omega) (by omega) (by decide)) (congrArg Value.string HF.out)) (fun w' h => bel_in B1 h) ?_
  intro W2 hW2
  have B2 := bel_in B1 hW2
  clear hW2 B1
  refine held_free 6 (.string F) rfl (by kernel_rfl) (by kernel_rfl) (by kernel_rfl) (by kernel_rfl) B2 (fun _ _ => by kernel_rfl) ?_
  refine held_end_at ⟨#[.agg (jnv ⟨1, true, id, token, nonce, mac⟩), .pointer (some ⟨b0, 0, none⟩), .string ⟨#[]⟩, .int .i64 0, .int .u64 17, .string F, .agg (jnv ⟨1, true, id, token, nonce, mac⟩), .bool true, .bool false, .pointer (some ⟨b0, 1, none⟩), .bool true, .int .u64 17, .string T1, .pointer (some ⟨b0, 2, none⟩), .int .i64 id, .int .u64 (i : Int), .string F, undef, undef, undef, undef, undef, undef, undef, undef, undef, undef, undef, undef, undef, undef, undef, undef, undef, undef, undef, undef, undef, undef, undef, undef, undef, undef, undef], []⟩ (by kernel_rfl) (by kernel_rfl) ?_
  have HCV := Lib.hid (HC.out.below B2 HC.out.lt)
  have HBZ := Lib.hid (show Below w.heap.size w W2 by have q := HBV.out.trans (B2.mono HBV.out.size); first | exact q | (rw [HB0.out]; exact q))
  obtain ⟨Y, hY⟩ : ∃ Y, Y = W2 := ⟨_, rfl⟩
  rw [← hY] at HCV HBZ
  have HYE := Lib.hid hY
  clear hY B2
  have c0 := HCV.out.cell 0
  have c4 := HCV.out.cell 4
  have c5 := HCV.out.cell 5
  simp only [List.getElem?_toArray, List.getElem?_cons_zero, List.getElem?_cons_succ] at c0 c4 c5
  rw [← HYE.out]
  have e4 := u64_small nonce HNC.out
  go_wp2_with fail
  rw [← HA.out]
  refine (answer (Put_ref A nonce 4 _ (by omega) (by have := HNC.out; omega) (by decide)) (congrArg Value.string HTT.out)).mono ?_
  rintro e Z ⟨rfl, b⟩
  go_wp2_with fail
  exact ret_two 2 3 (.string T) (.int .i64 0) (by kernel_rfl) (by kernel_rfl) (by kernel_rfl) (by kernel_rfl) ⟨rfl, HBZ.out.trans (b.mono HBZ.out.size)⟩
set_option maxHeartbeats 1000000 in
set_option maxRecDepth 100000 in
theorem EncodeR_1f (id : Int) (token nonce : Nat) (mac : ByteArray) (hx : Jn.Ok ⟨1, false, id, token, nonce, mac⟩) (hm : Jn.May ⟨1, false, id, token, nonce, mac⟩) (w : World) :
    Calls Tryd.prog 10 #[.agg (jnv ⟨1, false, id, token, nonce, mac⟩)] w fun e w' => e = .returned (encV ⟨1, false, id, token, nonce, mac⟩) ∧ Below w.heap.size w w' := by
  rw [encV_t _ hm]
  obtain ⟨T, hT⟩ : ∃ T, T = txt (Jn.body ⟨1, false, id, token, nonce, mac⟩) := ⟨_, rfl⟩
  rw [← hT]
  have hmm := hm
  obtain ⟨-, ⟨i0, i1⟩, hms, -⟩ := hm
  have i0 : 0 ≤ id := i0
  have i1 : id ≤ 255 := i1
  have hms : mac.size = 8 := hms
  obtain ⟨i, hi⟩ : ∃ i : Nat, id = (i : Int) := ⟨id.toNat, by omega⟩
  have h255 : i ≤ 255 := by omega
  obtain ⟨T1, hT1⟩ : ∃ T, T = txt (be 1 16) := ⟨_, rfl⟩
  have hT1s : T1.size = 1 := by rw [hT1]; exact be_len 1 _
  obtain ⟨F, hF⟩ : ∃ F, F = T1 ++ txt (be 1 i) := ⟨_, rfl⟩
  have hFt : F = txt [UInt8.ofNat (Jn.first false), UInt8.ofNat id.toNat] := by rw [hF, hT1, show i = id.toNat by omega]; exact front_txt ⟨1, false, id, token, nonce, mac⟩
  have hFs : F.size ≤ 100 := by rw [hFt, txt_size]; simp
  obtain ⟨A, hA⟩ : ∃ A, A = F ++ mac := ⟨_, rfl⟩
  have hAs : A.size ≤ 200 := by rw [hA, ByteArray.size_append]; omega
  have HA := Lib.hid (show A = F ++ mac from hA)
  have HTT := Lib.hid (show A ++ ⟨(be 4 nonce).toArray⟩ = T by rw [hT, ← body_1 ⟨1, false, id, token, nonce, mac⟩ rfl, hA, hFt]; rfl)
  have hcat := fun W => run_string_add (P := Tryd.prog) W F mac (by omega) (by omega)
  have HM := Lib.hid hmm
  have htk : token ≤ 4294967295 := hx.token
  have hnc : nonce ≤ 4294967295 := hx.nonce
  have HTK := Lib.hid htk
  have HNC := Lib.hid hnc
  have HI := Lib.hid (show id % 18446744073709551616 = (i : Int) by omega)
  have HT1 := Lib.hid (show (⟨#[]⟩ : ByteArray) ++ ⟨(be 1 16).toArray⟩ = T1 by rw [none_and, hT1]; rfl)
  have HF := Lib.hid (show T1 ++ ⟨(be 1 i).toArray⟩ = F from hF.symm)
  obtain ⟨w0, hw0⟩ : ∃ w0, w0 = w.alloc (.cells (jnv ⟨1, false, id, token, nonce, mac⟩) 24) := ⟨_, rfl⟩
  obtain ⟨b0, hb0⟩ : ∃ b0, b0 = w.heap.size := ⟨_, rfl⟩
  have hc0 : Blk w0 b0 24 (jnv ⟨1, false, id, token, nonce, mac⟩) := by rw [hw0, hb0]; exact Blk.new _ _ _
  have HC0 := Lib.hid hc0
  have HBW := Lib.hid (show Below w.heap.size w w0 by rw [hw0]; exact (Below.refl _ w).alloc (Nat.le_refl _) _)
  have HW0 := Lib.hid hw0
  have HB0 := Lib.hid hb0
  have HC1 := hc0
  rw [hw0, hb0] at HC1
  have HCC0 := Lib.hid HC1
  clear hT hms hi hT1 hF hFt hw0 hb0 hc0 hx i0 i1 HC1 hmm htk hnc hA
  go_enter Tryd.func10, Tryd.ntmps10
  go_wp2_with (refine wpList_load_row rfl 24 _ rfl w.heap.size rfl 24 (jnv ⟨1, false, id, token, nonce, mac⟩) (0, 0) _ ?_ Tryd.underlying24 rfl jn_size ?_; exact HCC0.out)
  rw [← HW0.out, ← HB0.out]
  refine (May_ref ⟨1, false, id, token, nonce, mac⟩ _).mono ?_
  rintro e V ⟨rfl, bv⟩
  rw [decide_eq_true HM.out]
  have HC := Lib.hid (HC0.out.below bv HC0.out.lt)
  have HBV := Lib.hid (HBW.out.trans (bv.mono HBW.out.size))
  have c1 := HC.out.cell 1
  simp only [List.getElem?_toArray, List.getElem?_cons_zero, List.getElem?_cons_succ] at c1
  clear bv HC0 HBW HW0 HCC0
  go_upto_region 6 with fail
  clear c1
  have B0 : Below V.heap.size V V.drew := (Below.refl _ V).drew
  refine held_start (fun W => Below V.heap.size V W) (by kernel_rfl) (n := 7) rfl ?_
  obtain ⟨W0, hW0⟩ : ∃ W0, W0 = V.drew := ⟨_, rfl⟩
  rw [← hW0] at B0 ⊢
  clear hW0
  refine held_free 0 (.int .u64 16) rfl (by kernel_rfl) (by kernel_rfl) (by kernel_rfl) (by kernel_rfl) B0 (fun _ _ => by kernel_rfl) ?_
  refine held_free 2 (.pointer (some ⟨b0, 2, none⟩)) rfl (by kernel_rfl) (by kernel_rfl) (by kernel_rfl) (by kernel_rfl) B0 (fun _ _ => ex_field (v := .pointer (some ⟨b0, 0, none⟩)) 24 (.tmp 1) 2 (by kernel_rfl) (by kernel_rfl) (by kernel_rfl)) ?_
  refine held_free 3 (.int .i64 id) rfl (by kernel_rfl) (by kernel_rfl) (by kernel_rfl) (by kernel_rfl) B0 (fun W b => ex_load 3 (.tmp 13) (by kernel_rfl) ⟨b0, 2, none⟩ (by kernel_rfl) (by kernel_rfl) ((HC.out.below b HC.out.lt).cell 2)) ?_
  refine held_free 4 (.int .u64 (i : Int)) rfl (by kernel_rfl) (by kernel_rfl) (by kernel_rfl) (by kernel_rfl) B0 (fun W _ => ex_convert_to (v := .int .i64 id) 3 54 (.tmp 14) (by kernel_rfl) (by kernel_rfl) (conv_i64_u64 id i HI.out W)) ?_
  refine held_call 1 rfl (by kernel_rfl) (by kernel_rfl) (by kernel_rfl) (answer (Put_ref ⟨#[]⟩ 16 1 _ (by decide) (by decide) (by decide)) (congrArg Value.string HT1.out)) (fun w' h => bel_in B0 h) ?_
  intro W1 hW1
  have B1 := bel_in B0 hW1
  clear hW1 B0
  refine held_call 5 rfl (by kernel_rfl) (by kernel_rfl) (by kernel_rfl) (answer (Put_ref T1 i 1 _ (by omega) (by omega) (by decide)) (congrArg Value.string HF.out)) (fun w' h => bel_in B1 h) ?_
  intro W2 hW2
  have B2 := bel_in B1 hW2
  clear hW2 B1
  refine held_free 6 (.string F) rfl (by kernel_rfl) (by kernel_rfl) (by kernel_rfl) (by kernel_rfl) B2 (fun _ _ => by kernel_rfl) ?_
  refine held_end_at ⟨#[.agg (jnv ⟨1, false, id, token, nonce, mac⟩), .pointer (some ⟨b0, 0, none⟩), .string ⟨#[]⟩, .int .i64 0, .int .u64 16, .string F, .agg (jnv ⟨1, false, id, token, nonce, mac⟩), .bool true, .bool false, .pointer (some ⟨b0, 1, none⟩), .bool false, .int .u64 16, .string T1, .pointer (some ⟨b0, 2, none⟩), .int .i64 id, .int .u64 (i : Int), .string F, undef, undef, undef, undef, undef, undef, undef, undef, undef, undef, undef, undef, undef, undef, undef, undef, undef, undef, undef, undef, undef, undef, undef, undef, undef, undef, undef], []⟩ (by kernel_rfl) (by kernel_rfl) ?_
  have HCV := Lib.hid (HC.out.below B2 HC.out.lt)
  have HBZ := Lib.hid (show Below w.heap.size w W2 by have q := HBV.out.trans (B2.mono HBV.out.size); first | exact q | (rw [HB0.out]; exact q))
  obtain ⟨Y, hY⟩ : ∃ Y, Y = W2 := ⟨_, rfl⟩
  rw [← hY] at HCV HBZ
  have HYE := Lib.hid hY
  clear hY B2
  have c0 := HCV.out.cell 0
  have c4 := HCV.out.cell 4
  have c5 := HCV.out.cell 5
  simp only [List.getElem?_toArray, List.getElem?_cons_zero, List.getElem?_cons_succ] at c0 c4 c5
  rw [← HYE.out]
  have e4 := u64_small nonce HNC.out
  go_wp2_with fail
  rw [← HA.out]
  refine (answer (Put_ref A nonce 4 _ (by omega) (by have := HNC.out; omega) (by decide)) (congrArg Value.string HTT.out)).mono ?_
  rintro e Z ⟨rfl, b⟩
  go_wp2_with fail
  exact ret_two 2 3 (.string T) (.int .i64 0) (by kernel_rfl) (by kernel_rfl) (by kernel_rfl) (by kernel_rfl) ⟨rfl, HBZ.out.trans (b.mono HBZ.out.size)⟩
set_option maxHeartbeats 1000000 in
set_option maxRecDepth 100000 in
theorem EncodeR_2f (id : Int) (token nonce : Nat) (mac : ByteArray) (hx : Jn.Ok ⟨2, false, id, token, nonce, mac⟩) (hm : Jn.May ⟨2, false, id, token, nonce, mac⟩) (w : World) :
    Calls Tryd.prog 10 #[.agg (jnv ⟨2, false, id, token, nonce, mac⟩)] w fun e w' => e = .returned (encV ⟨2, false, id, token, nonce, mac⟩) ∧ Below w.heap.size w w' := by
  rw [encV_t _ hm]
  obtain ⟨T, hT⟩ : ∃ T, T = txt (Jn.body ⟨2, false, id, token, nonce, mac⟩) := ⟨_, rfl⟩
  rw [← hT]
  have hmm := hm
  obtain ⟨-, ⟨i0, i1⟩, hms, -⟩ := hm
  have i0 : 0 ≤ id := i0
  have i1 : id ≤ 255 := i1
  have hms : mac.size = 20 := hms
  obtain ⟨i, hi⟩ : ∃ i : Nat, id = (i : Int) := ⟨id.toNat, by omega⟩
  have h255 : i ≤ 255 := by omega
  obtain ⟨T1, hT1⟩ : ∃ T, T = txt (be 1 16) := ⟨_, rfl⟩
  have hT1s : T1.size = 1 := by rw [hT1]; exact be_len 1 _
  obtain ⟨F, hF⟩ : ∃ F, F = T1 ++ txt (be 1 i) := ⟨_, rfl⟩
  have hFt : F = txt [UInt8.ofNat (Jn.first false), UInt8.ofNat id.toNat] := by rw [hF, hT1, show i = id.toNat by omega]; exact front_txt ⟨2, false, id, token, nonce, mac⟩
  have hFs : F.size ≤ 100 := by rw [hFt, txt_size]; simp
  have HTT := Lib.hid (show T = F ++ mac by rw [hT, ← body_2 ⟨2, false, id, token, nonce, mac⟩ rfl, hFt])
  have hcat := fun W => run_string_add (P := Tryd.prog) W F mac (by omega) (by omega)
  have HM := Lib.hid hmm
  have htk : token ≤ 4294967295 := hx.token
  have hnc : nonce ≤ 4294967295 := hx.nonce
  have HTK := Lib.hid htk
  have HNC := Lib.hid hnc
  have HI := Lib.hid (show id % 18446744073709551616 = (i : Int) by omega)
  have HT1 := Lib.hid (show (⟨#[]⟩ : ByteArray) ++ ⟨(be 1 16).toArray⟩ = T1 by rw [none_and, hT1]; rfl)
  have HF := Lib.hid (show T1 ++ ⟨(be 1 i).toArray⟩ = F from hF.symm)
  obtain ⟨w0, hw0⟩ : ∃ w0, w0 = w.alloc (.cells (jnv ⟨2, false, id, token, nonce, mac⟩) 24) := ⟨_, rfl⟩
  obtain ⟨b0, hb0⟩ : ∃ b0, b0 = w.heap.size := ⟨_, rfl⟩
  have hc0 : Blk w0 b0 24 (jnv ⟨2, false, id, token, nonce, mac⟩) := by rw [hw0, hb0]; exact Blk.new _ _ _
  have HC0 := Lib.hid hc0
  have HBW := Lib.hid (show Below w.heap.size w w0 by rw [hw0]; exact (Below.refl _ w).alloc (Nat.le_refl _) _)
  have HW0 := Lib.hid hw0
  have HB0 := Lib.hid hb0
  have HC1 := hc0
  rw [hw0, hb0] at HC1
  have HCC0 := Lib.hid HC1
  clear hT hms hi hT1 hF hFt hw0 hb0 hc0 hx i0 i1 HC1 hmm htk hnc
  go_enter Tryd.func10, Tryd.ntmps10
  go_wp2_with (refine wpList_load_row rfl 24 _ rfl w.heap.size rfl 24 (jnv ⟨2, false, id, token, nonce, mac⟩) (0, 0) _ ?_ Tryd.underlying24 rfl jn_size ?_; exact HCC0.out)
  rw [← HW0.out, ← HB0.out]
  refine (May_ref ⟨2, false, id, token, nonce, mac⟩ _).mono ?_
  rintro e V ⟨rfl, bv⟩
  rw [decide_eq_true HM.out]
  have HC := Lib.hid (HC0.out.below bv HC0.out.lt)
  have HBV := Lib.hid (HBW.out.trans (bv.mono HBW.out.size))
  have c1 := HC.out.cell 1
  simp only [List.getElem?_toArray, List.getElem?_cons_zero, List.getElem?_cons_succ] at c1
  clear bv HC0 HBW HW0 HCC0
  go_upto_region 6 with fail
  clear c1
  have B0 : Below V.heap.size V V.drew := (Below.refl _ V).drew
  refine held_start (fun W => Below V.heap.size V W) (by kernel_rfl) (n := 7) rfl ?_
  obtain ⟨W0, hW0⟩ : ∃ W0, W0 = V.drew := ⟨_, rfl⟩
  rw [← hW0] at B0 ⊢
  clear hW0
  refine held_free 0 (.int .u64 16) rfl (by kernel_rfl) (by kernel_rfl) (by kernel_rfl) (by kernel_rfl) B0 (fun _ _ => by kernel_rfl) ?_
  refine held_free 2 (.pointer (some ⟨b0, 2, none⟩)) rfl (by kernel_rfl) (by kernel_rfl) (by kernel_rfl) (by kernel_rfl) B0 (fun _ _ => ex_field (v := .pointer (some ⟨b0, 0, none⟩)) 24 (.tmp 1) 2 (by kernel_rfl) (by kernel_rfl) (by kernel_rfl)) ?_
  refine held_free 3 (.int .i64 id) rfl (by kernel_rfl) (by kernel_rfl) (by kernel_rfl) (by kernel_rfl) B0 (fun W b => ex_load 3 (.tmp 13) (by kernel_rfl) ⟨b0, 2, none⟩ (by kernel_rfl) (by kernel_rfl) ((HC.out.below b HC.out.lt).cell 2)) ?_
  refine held_free 4 (.int .u64 (i : Int)) rfl (by kernel_rfl) (by kernel_rfl) (by kernel_rfl) (by kernel_rfl) B0 (fun W _ => ex_convert_to (v := .int .i64 id) 3 54 (.tmp 14) (by kernel_rfl) (by kernel_rfl) (conv_i64_u64 id i HI.out W)) ?_
  refine held_call 1 rfl (by kernel_rfl) (by kernel_rfl) (by kernel_rfl) (answer (Put_ref ⟨#[]⟩ 16 1 _ (by decide) (by decide) (by decide)) (congrArg Value.string HT1.out)) (fun w' h => bel_in B0 h) ?_
  intro W1 hW1
  have B1 := bel_in B0 hW1
  clear hW1 B0
  refine held_call 5 rfl (by kernel_rfl) (by kernel_rfl) (by kernel_rfl) (answer (Put_ref T1 i 1 _ (by omega) (by omega) (by decide)) (congrArg Value.string HF.out)) (fun w' h => bel_in B1 h) ?_
  intro W2 hW2
  have B2 := bel_in B1 hW2
  clear hW2 B1
  refine held_free 6 (.string F) rfl (by kernel_rfl) (by kernel_rfl) (by kernel_rfl) (by kernel_rfl) B2 (fun _ _ => by kernel_rfl) ?_
  refine held_end_at ⟨#[.agg (jnv ⟨2, false, id, token, nonce, mac⟩), .pointer (some ⟨b0, 0, none⟩), .string ⟨#[]⟩, .int .i64 0, .int .u64 16, .string F, .agg (jnv ⟨2, false, id, token, nonce, mac⟩), .bool true, .bool false, .pointer (some ⟨b0, 1, none⟩), .bool false, .int .u64 16, .string T1, .pointer (some ⟨b0, 2, none⟩), .int .i64 id, .int .u64 (i : Int), .string F, undef, undef, undef, undef, undef, undef, undef, undef, undef, undef, undef, undef, undef, undef, undef, undef, undef, undef, undef, undef, undef, undef, undef, undef, undef, undef, undef], []⟩ (by kernel_rfl) (by kernel_rfl) ?_
  have HCV := Lib.hid (HC.out.below B2 HC.out.lt)
  have HBZ := Lib.hid (show Below w.heap.size w W2 by have q := HBV.out.trans (B2.mono HBV.out.size); first | exact q | (rw [HB0.out]; exact q))
  obtain ⟨Y, hY⟩ : ∃ Y, Y = W2 := ⟨_, rfl⟩
  rw [← hY] at HCV HBZ
  have HYE := Lib.hid hY
  clear hY B2
  have c0 := HCV.out.cell 0
  have c4 := HCV.out.cell 4
  have c5 := HCV.out.cell 5
  simp only [List.getElem?_toArray, List.getElem?_cons_zero, List.getElem?_cons_succ] at c0 c4 c5
  rw [← HYE.out]
  go_wp2_with fail
  exact ret_two 2 3 (.string T) (.int .i64 0) rfl (by rw [HTT.out]; rfl) rfl rfl ⟨rfl, HBZ.out⟩
theorem EncodeR_no (x : Jn) (hm : ¬ x.May) (w : World) :
    Calls Tryd.prog 10 #[.agg (jnv x)] w fun e w' => e = .returned (encV x) ∧ Below w.heap.size w w' := by
  rw [encV_f x hm]
  have HC := Lib.hid (Blk.new w 24 (jnv x))
  have HB := Lib.hid ((Below.refl _ w).alloc (Nat.le_refl _) (.cells (jnv x) 24))
  have HM := Lib.hid hm
  clear hm
  go_enter Tryd.func10, Tryd.ntmps10
  go_wp2_with (refine wpList_load_row rfl 24 _ rfl w.heap.size rfl 24 (jnv x) (0, 0) _ ?_ Tryd.underlying24 rfl jn_size ?_; exact HC.out)
  refine (May_ref x _).mono ?_
  rintro e V ⟨rfl, bv⟩
  rw [decide_eq_false HM.out]
  have HBV := Lib.hid (HB.out.trans (bv.mono HB.out.size))
  clear bv
  go_wp2_with fail
  exact ret_two 2 3 (.string ⟨#[]⟩) (.int .i64 2) rfl rfl rfl rfl ⟨rfl, HBV.out⟩
theorem EncodeR_any (x : Jn) (hx : x.Ok) (w : World) :
    Calls Tryd.prog 10 #[.agg (jnv x)] w fun e w' => e = .returned (encV x) ∧ Below w.heap.size w w' := by
  by_cases hm : x.May
  · obtain ⟨form, backup, id, token, nonce, mac⟩ := x
    rcases Jn.forms hm with h | h | h
    · have h : form = 0 := h
      subst h
      cases backup
      · exact EncodeR_0f id token nonce mac hx hm w
      · exact EncodeR_0t id token nonce mac hx hm w
    · have h : form = 1 := h
      subst h
      cases backup
      · exact EncodeR_1f id token nonce mac hx hm w
      · exact EncodeR_1t id token nonce mac hx hm w
    · have h : form = 2 := h
      subst h
      obtain rfl : backup = false := (hm.2.2.2.2 rfl).1
      exact EncodeR_2f id token nonce mac hx hm w
  · exact EncodeR_no x hm w
end Go.Proofs.YthnokkcpmikajaaDoor
