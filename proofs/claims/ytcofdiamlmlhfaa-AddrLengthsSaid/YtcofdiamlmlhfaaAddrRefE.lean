/-
  The document's own EncodeAdd and EncodeRemove of layer 12, by their walks.
-/
import Derived.Test.YtcofdiamlmlhfaaAddrMay
import Derived.Test.YtcofdiamlmlhfaaAddrEnc
import Derived.Test.YtcofdiamlmlhfaaCurRefs
namespace Go.Proofs.Ytcofdiamlmlhfaa
open Go.ChangeShapes Go.WideShapes Go.ChangeAt Go.RowKit
set_option linter.unusedVariables false

theorem conv_i64_u64 (n : Nat) (h : n ≤ 9223372036854775807) (w : World) : (convert 3 57 (.int .i64 (n : Int))).run Try.prog w = .ok (.int .u64 (n : Int)) w := by
  rw [run_convert_int w 3 57 .i64 _ (by kernel_rfl) (by kernel_rfl), show Try.prog.intKind 57 = .u64 by kernel_rfl, IntKind.wrap_u64, show (n : Int) % 18446744073709551616 = (n : Int) by omega]
theorem body_sum (x : Ad) (i : Nat) (hi : x.id = (i : Int)) : txt [UInt8.ofNat (fst x.echo)] ++ txt (be 1 i) ++ x.ip ++ txt x.ports ++ x.mac = txt x.body := by
  obtain ⟨echo, id, ip, hp, port, mac⟩ := x
  have hi : id = (i : Int) := hi
  subst hi
  show txt [UInt8.ofNat (fst echo)] ++ txt (be 1 i) ++ txt ip.data.toList ++ txt _ ++ txt mac.data.toList = _
  simp only [txt_app]
  simp [Ad.body, Ad.rest, be]
theorem cat_nil (a : ByteArray) : a ++ txt [] = a := txt_nil a
set_option maxHeartbeats 1000000 in
set_option maxRecDepth 100000 in
theorem encR_tt (id : Int) (ip : ByteArray) (port : Int) (mac : ByteArray) (hm : Ad.May (⟨true, id, ip, true, port, mac⟩ : Ad)) (w : World) :
    Calls Try.prog 10 #[.agg (adv (⟨true, id, ip, true, port, mac⟩ : Ad))] w fun e w' => e = .returned (encV (⟨true, id, ip, true, port, mac⟩ : Ad)) ∧ Below w.heap.size w w' := by
  rw [encV_t _ hm]
  obtain ⟨T, hT⟩ : ∃ T, T = txt (Ad.body (⟨true, id, ip, true, port, mac⟩ : Ad)) := ⟨_, rfl⟩
  rw [← hT]
  have i0 : 0 ≤ id ∧ id ≤ 255 := hm.1
  have p0 : 0 ≤ port ∧ port ≤ 65535 := hm.2.2.1
  have z4 : ip.size = 4 ∨ ip.size = 16 := hm.2.1
  have zm : mac.size = macOf true := hm.2.2.2.2
  have zm8 : mac.size ≤ 8 := by rw [zm]; decide
  obtain ⟨i, hi⟩ : ∃ i : Nat, id = (i : Int) := ⟨id.toNat, by omega⟩
  have h255 : i ≤ 255 := by omega
  obtain ⟨A, hA⟩ : ∃ A, A = (⟨#[49]⟩ : ByteArray) ++ txt (be 1 i) := ⟨_, rfl⟩
  obtain ⟨C, hC⟩ : ∃ C, C = A ++ ip := ⟨_, rfl⟩
  obtain ⟨Q, hQ⟩ : ∃ Q, Q = C ++ txt (Ad.ports (⟨true, id, ip, true, port, mac⟩ : Ad)) := ⟨_, rfl⟩
  have hT2 : T = Q ++ mac := by rw [hT, hQ, hC, hA]; exact (body_sum (⟨true, id, ip, true, port, mac⟩ : Ad) i hi).symm
  have sA : A.size = 2 := by rw [hA, ByteArray.size_append, be_len]; rfl
  have sC : C.size ≤ 18 := by rw [hC, ByteArray.size_append]; omega
  have sQ : Q.size ≤ 20 := by
    rw [hQ, ByteArray.size_append, txt_size, Ad.ports_length]
    have : portOf true ≤ 2 := by decide
    show C.size + portOf true ≤ 20
    omega
  have HSZ := Lib.hid (show A.size ≤ 20 ∧ ip.size ≤ 20 ∧ C.size ≤ 18 ∧ Q.size ≤ 20 ∧ mac.size ≤ 8 from ⟨by omega, by omega, sC, sQ, zm8⟩)
  have HA := Lib.hid (show (⟨#[49]⟩ : ByteArray) ++ ⟨(be 1 i).toArray⟩ = A from hA.symm)
  have HCC := Lib.hid hC
  have HTT := Lib.hid hT2
  have HI := Lib.hid hi
  have HI2 := Lib.hid h255
  have HM := Lib.hid hm
  obtain ⟨n, hn⟩ : ∃ n : Nat, port = (n : Int) := ⟨port.toNat, by omega⟩
  subst hn
  have hn : n ≤ 65535 := by omega
  have HQ := Lib.hid (show C ++ ⟨(be 2 n).toArray⟩ = Q by rw [hQ]; rfl)
  have HN := Lib.hid hn
  obtain ⟨w0, hw0⟩ : ∃ w0, w0 = w.alloc (.cells (adv (⟨true, id, ip, true, (n : Int), mac⟩ : Ad)) 23) := ⟨_, rfl⟩
  obtain ⟨b0, hb0⟩ : ∃ b0, b0 = w.heap.size := ⟨_, rfl⟩
  have hc0 : Blk w0 b0 23 (adv (⟨true, id, ip, true, (n : Int), mac⟩ : Ad)) := by rw [hw0, hb0]; exact Blk.new _ _ _
  have HC0 := Lib.hid hc0
  have HBW := Lib.hid (show Below w.heap.size w w0 by rw [hw0]; exact (Below.refl _ w).alloc (Nat.le_refl _) _)
  have HW0 := Lib.hid hw0
  have HB0 := Lib.hid hb0
  have HC1 := hc0
  rw [hw0, hb0] at HC1
  have HCC0 := Lib.hid HC1
  clear hT hT2 hi hA hC hQ sA sC sQ zm zm8 z4 i0 p0 hw0 hb0 hc0 HC1 hm h255 hn
  go_enter Try.func10, Try.ntmps10
  go_wp2_with (refine wpList_load_row rfl 23 _ rfl w.heap.size rfl 23 (adv (⟨true, id, ip, true, (n : Int), mac⟩ : Ad)) (0, 0) _ ?_ Try.underlying23 rfl ad_size ?_; exact HCC0.out)
  rw [← HW0.out, ← HB0.out]
  refine (MayAdd_any (⟨true, id, ip, true, (n : Int), mac⟩ : Ad) _).mono ?_
  rintro e V ⟨rfl, bv⟩
  rw [decide_eq_true HM.out]
  have hcv := HC0.out.below bv HC0.out.lt
  have HC := Lib.hid hcv
  have HBV := Lib.hid (HBW.out.trans (bv.mono HBW.out.size))
  have c0 := hcv.cell 0
  simp only [List.getElem?_toArray, List.getElem?_cons_zero] at c0
  clear bv HC0 HBW HW0 HCC0 hcv
  go_upto_region 6 with fail
  have B0 : Below V.heap.size V V.drew := (Below.refl _ V).drew
  refine held_start (fun W => Below V.heap.size V W) (by kernel_rfl) (n := 9) rfl ?_
  obtain ⟨W0, hW0⟩ : ∃ W0, W0 = V.drew := ⟨_, rfl⟩
  rw [← hW0] at B0 ⊢
  clear hW0
  refine held_free 0 (.string ⟨#[49]⟩) rfl (by kernel_rfl) (by kernel_rfl) (by kernel_rfl) (by kernel_rfl) B0 (fun _ _ => by kernel_rfl) ?_
  refine held_free 1 (.pointer (some ⟨b0, 1, none⟩)) rfl (by kernel_rfl) (by kernel_rfl) (by kernel_rfl) (by kernel_rfl) B0 (fun _ _ => ex_field (v := .pointer (some ⟨b0, 0, none⟩)) 23 (.tmp 1) 1 (by kernel_rfl) (by kernel_rfl) (by kernel_rfl)) ?_
  refine held_free 2 (.int .i64 (i : Int)) rfl (by kernel_rfl) (by kernel_rfl) (by kernel_rfl) (by kernel_rfl) B0 (fun W b => ex_load 3 (.tmp 11) (by kernel_rfl) ⟨b0, 1, none⟩ (by kernel_rfl) (by kernel_rfl) (((HC.out.below b HC.out.lt).cell 1).trans (congrArg (fun z : Int => some (Value.int .i64 z)) HI.out))) ?_
  refine held_free 3 (.int .u64 (i : Int)) rfl (by kernel_rfl) (by kernel_rfl) (by kernel_rfl) (by kernel_rfl) B0 (fun W _ => ex_convert_to (v := .int .i64 (i : Int)) 3 57 (.tmp 12) (by kernel_rfl) (by kernel_rfl) (conv_i64_u64 i (by have := HI2.out; omega) W)) ?_
  refine held_free 5 (.pointer (some ⟨b0, 2, none⟩)) rfl (by kernel_rfl) (by kernel_rfl) (by kernel_rfl) (by kernel_rfl) B0 (fun _ _ => ex_field (v := .pointer (some ⟨b0, 0, none⟩)) 23 (.tmp 1) 2 (by kernel_rfl) (by kernel_rfl) (by kernel_rfl)) ?_
  refine held_free 6 (.string ip) rfl (by kernel_rfl) (by kernel_rfl) (by kernel_rfl) (by kernel_rfl) B0 (fun W b => ex_load 9 (.tmp 15) (by kernel_rfl) ⟨b0, 2, none⟩ (by kernel_rfl) (by kernel_rfl) ((HC.out.below b HC.out.lt).cell 2)) ?_
  refine held_call 4 rfl (by kernel_rfl) (by kernel_rfl) (by kernel_rfl) (answer (Put_ref ⟨#[49]⟩ i 1 _ (by decide) (by have := HI2.out; omega) (by decide)) (congrArg Value.string HA.out)) (fun w' h => bel_in B0 h) ?_
  intro W1 hW1
  have B1 := bel_in B0 hW1
  clear hW1 B0
  refine held_free 7 (.string C) rfl (by kernel_rfl) (by kernel_rfl) (by kernel_rfl) (by kernel_rfl) B1 (fun _ _ => ex_strcat 9 9 (.tmp 14) (.tmp 16) (by kernel_rfl) (A) (ip) C (by kernel_rfl) (by kernel_rfl) (by have := HSZ.out.1; omega) (by have := HSZ.out.2.1; omega) HCC.out) ?_
  refine held_free 8 (.string C) rfl (by kernel_rfl) (by kernel_rfl) (by kernel_rfl) (by kernel_rfl) B1 (fun _ _ => by kernel_rfl) ?_
  refine held_end_at ⟨#[.agg (adv (⟨true, id, ip, true, (n : Int), mac⟩ : Ad)), .pointer (some ⟨b0, 0, none⟩), .string ⟨#[]⟩, .int .i64 0, .string C, .agg (adv (⟨true, id, ip, true, (n : Int), mac⟩ : Ad)), .bool true, .bool false, .pointer (some ⟨b0, 0, none⟩), .bool true, .string ⟨#[49]⟩, .pointer (some ⟨b0, 1, none⟩), .int .i64 (i : Int), .int .u64 (i : Int), .string A, .pointer (some ⟨b0, 2, none⟩), .string ip, .string C, undef, undef, undef, undef, undef, undef, undef, undef, undef, undef, undef], []⟩ (by kernel_rfl) (by kernel_rfl) ?_
  have HCW := HC.out.below B1 HC.out.lt
  have HBE := Lib.hid (HBV.out.trans (B1.mono HBV.out.size))
  have c3 := HCW.cell 3
  have c4 := HCW.cell 4
  have c5 := HCW.cell 5
  simp only [List.getElem?_toArray, List.getElem?_cons_zero, List.getElem?_cons_succ] at c3 c4 c5
  have hcn := conv_i64_u64 n (by have := HN.out; omega)
  have HCX := Lib.hid HCW
  clear B1 HCW c5 c0
  go_wp2_with fail
  refine (answer (Put_ref C n 2 _ (by have := HSZ.out.2.2.1; omega) (by have := HN.out; omega) (by decide)) (congrArg Value.string HQ.out)).mono ?_
  rintro e W9 ⟨rfl, b⟩
  have c5 := (HCX.out.below b HCX.out.lt).cell 5
  simp only [List.getElem?_toArray, List.getElem?_cons_zero, List.getElem?_cons_succ] at c5
  have HBE := Lib.hid (HBE.out.trans (b.mono HBE.out.size))
  clear b c3 c4 hcn
  have hcat := fun W => run_string_add (P := Try.prog) W Q mac (by have := HSZ.out.2.2.2.1; omega) (by have := HSZ.out.2.2.2.2; omega)
  rw [← HTT.out] at hcat
  go_wp2_with fail
  exact ret_two 2 3 (.string T) (.int .i64 0) (by kernel_rfl) (by kernel_rfl) (by kernel_rfl) (by kernel_rfl) ⟨rfl, by have q := HBE.out; first | exact q | (rw [HB0.out]; exact q)⟩
set_option maxHeartbeats 1000000 in
set_option maxRecDepth 100000 in
theorem encR_tf (id : Int) (ip : ByteArray) (port : Int) (mac : ByteArray) (hm : Ad.May (⟨true, id, ip, false, port, mac⟩ : Ad)) (w : World) :
    Calls Try.prog 10 #[.agg (adv (⟨true, id, ip, false, port, mac⟩ : Ad))] w fun e w' => e = .returned (encV (⟨true, id, ip, false, port, mac⟩ : Ad)) ∧ Below w.heap.size w w' := by
  rw [encV_t _ hm]
  obtain ⟨T, hT⟩ : ∃ T, T = txt (Ad.body (⟨true, id, ip, false, port, mac⟩ : Ad)) := ⟨_, rfl⟩
  rw [← hT]
  have i0 : 0 ≤ id ∧ id ≤ 255 := hm.1
  have p0 : 0 ≤ port ∧ port ≤ 65535 := hm.2.2.1
  have z4 : ip.size = 4 ∨ ip.size = 16 := hm.2.1
  have zm : mac.size = macOf true := hm.2.2.2.2
  have zm8 : mac.size ≤ 8 := by rw [zm]; decide
  obtain ⟨i, hi⟩ : ∃ i : Nat, id = (i : Int) := ⟨id.toNat, by omega⟩
  have h255 : i ≤ 255 := by omega
  obtain ⟨A, hA⟩ : ∃ A, A = (⟨#[49]⟩ : ByteArray) ++ txt (be 1 i) := ⟨_, rfl⟩
  obtain ⟨C, hC⟩ : ∃ C, C = A ++ ip := ⟨_, rfl⟩
  obtain ⟨Q, hQ⟩ : ∃ Q, Q = C ++ txt (Ad.ports (⟨true, id, ip, false, port, mac⟩ : Ad)) := ⟨_, rfl⟩
  have hT2 : T = Q ++ mac := by rw [hT, hQ, hC, hA]; exact (body_sum (⟨true, id, ip, false, port, mac⟩ : Ad) i hi).symm
  have sA : A.size = 2 := by rw [hA, ByteArray.size_append, be_len]; rfl
  have sC : C.size ≤ 18 := by rw [hC, ByteArray.size_append]; omega
  have sQ : Q.size ≤ 20 := by
    rw [hQ, ByteArray.size_append, txt_size, Ad.ports_length]
    have : portOf false ≤ 2 := by decide
    show C.size + portOf false ≤ 20
    omega
  have HSZ := Lib.hid (show A.size ≤ 20 ∧ ip.size ≤ 20 ∧ C.size ≤ 18 ∧ Q.size ≤ 20 ∧ mac.size ≤ 8 from ⟨by omega, by omega, sC, sQ, zm8⟩)
  have HA := Lib.hid (show (⟨#[49]⟩ : ByteArray) ++ ⟨(be 1 i).toArray⟩ = A from hA.symm)
  have HCC := Lib.hid hC
  have HTT := Lib.hid hT2
  have HI := Lib.hid hi
  have HI2 := Lib.hid h255
  have HM := Lib.hid hm
  have HQ := Lib.hid (show C = Q by rw [hQ]; exact (cat_nil C).symm)
  obtain ⟨w0, hw0⟩ : ∃ w0, w0 = w.alloc (.cells (adv (⟨true, id, ip, false, port, mac⟩ : Ad)) 23) := ⟨_, rfl⟩
  obtain ⟨b0, hb0⟩ : ∃ b0, b0 = w.heap.size := ⟨_, rfl⟩
  have hc0 : Blk w0 b0 23 (adv (⟨true, id, ip, false, port, mac⟩ : Ad)) := by rw [hw0, hb0]; exact Blk.new _ _ _
  have HC0 := Lib.hid hc0
  have HBW := Lib.hid (show Below w.heap.size w w0 by rw [hw0]; exact (Below.refl _ w).alloc (Nat.le_refl _) _)
  have HW0 := Lib.hid hw0
  have HB0 := Lib.hid hb0
  have HC1 := hc0
  rw [hw0, hb0] at HC1
  have HCC0 := Lib.hid HC1
  clear hT hT2 hi hA hC hQ sA sC sQ zm zm8 z4 i0 p0 hw0 hb0 hc0 HC1 hm h255
  go_enter Try.func10, Try.ntmps10
  go_wp2_with (refine wpList_load_row rfl 23 _ rfl w.heap.size rfl 23 (adv (⟨true, id, ip, false, port, mac⟩ : Ad)) (0, 0) _ ?_ Try.underlying23 rfl ad_size ?_; exact HCC0.out)
  rw [← HW0.out, ← HB0.out]
  refine (MayAdd_any (⟨true, id, ip, false, port, mac⟩ : Ad) _).mono ?_
  rintro e V ⟨rfl, bv⟩
  rw [decide_eq_true HM.out]
  have hcv := HC0.out.below bv HC0.out.lt
  have HC := Lib.hid hcv
  have HBV := Lib.hid (HBW.out.trans (bv.mono HBW.out.size))
  have c0 := hcv.cell 0
  simp only [List.getElem?_toArray, List.getElem?_cons_zero] at c0
  clear bv HC0 HBW HW0 HCC0 hcv
  go_upto_region 6 with fail
  have B0 : Below V.heap.size V V.drew := (Below.refl _ V).drew
  refine held_start (fun W => Below V.heap.size V W) (by kernel_rfl) (n := 9) rfl ?_
  obtain ⟨W0, hW0⟩ : ∃ W0, W0 = V.drew := ⟨_, rfl⟩
  rw [← hW0] at B0 ⊢
  clear hW0
  refine held_free 0 (.string ⟨#[49]⟩) rfl (by kernel_rfl) (by kernel_rfl) (by kernel_rfl) (by kernel_rfl) B0 (fun _ _ => by kernel_rfl) ?_
  refine held_free 1 (.pointer (some ⟨b0, 1, none⟩)) rfl (by kernel_rfl) (by kernel_rfl) (by kernel_rfl) (by kernel_rfl) B0 (fun _ _ => ex_field (v := .pointer (some ⟨b0, 0, none⟩)) 23 (.tmp 1) 1 (by kernel_rfl) (by kernel_rfl) (by kernel_rfl)) ?_
  refine held_free 2 (.int .i64 (i : Int)) rfl (by kernel_rfl) (by kernel_rfl) (by kernel_rfl) (by kernel_rfl) B0 (fun W b => ex_load 3 (.tmp 11) (by kernel_rfl) ⟨b0, 1, none⟩ (by kernel_rfl) (by kernel_rfl) (((HC.out.below b HC.out.lt).cell 1).trans (congrArg (fun z : Int => some (Value.int .i64 z)) HI.out))) ?_
  refine held_free 3 (.int .u64 (i : Int)) rfl (by kernel_rfl) (by kernel_rfl) (by kernel_rfl) (by kernel_rfl) B0 (fun W _ => ex_convert_to (v := .int .i64 (i : Int)) 3 57 (.tmp 12) (by kernel_rfl) (by kernel_rfl) (conv_i64_u64 i (by have := HI2.out; omega) W)) ?_
  refine held_free 5 (.pointer (some ⟨b0, 2, none⟩)) rfl (by kernel_rfl) (by kernel_rfl) (by kernel_rfl) (by kernel_rfl) B0 (fun _ _ => ex_field (v := .pointer (some ⟨b0, 0, none⟩)) 23 (.tmp 1) 2 (by kernel_rfl) (by kernel_rfl) (by kernel_rfl)) ?_
  refine held_free 6 (.string ip) rfl (by kernel_rfl) (by kernel_rfl) (by kernel_rfl) (by kernel_rfl) B0 (fun W b => ex_load 9 (.tmp 15) (by kernel_rfl) ⟨b0, 2, none⟩ (by kernel_rfl) (by kernel_rfl) ((HC.out.below b HC.out.lt).cell 2)) ?_
  refine held_call 4 rfl (by kernel_rfl) (by kernel_rfl) (by kernel_rfl) (answer (Put_ref ⟨#[49]⟩ i 1 _ (by decide) (by have := HI2.out; omega) (by decide)) (congrArg Value.string HA.out)) (fun w' h => bel_in B0 h) ?_
  intro W1 hW1
  have B1 := bel_in B0 hW1
  clear hW1 B0
  refine held_free 7 (.string C) rfl (by kernel_rfl) (by kernel_rfl) (by kernel_rfl) (by kernel_rfl) B1 (fun _ _ => ex_strcat 9 9 (.tmp 14) (.tmp 16) (by kernel_rfl) (A) (ip) C (by kernel_rfl) (by kernel_rfl) (by have := HSZ.out.1; omega) (by have := HSZ.out.2.1; omega) HCC.out) ?_
  refine held_free 8 (.string C) rfl (by kernel_rfl) (by kernel_rfl) (by kernel_rfl) (by kernel_rfl) B1 (fun _ _ => by kernel_rfl) ?_
  refine held_end_at ⟨#[.agg (adv (⟨true, id, ip, false, port, mac⟩ : Ad)), .pointer (some ⟨b0, 0, none⟩), .string ⟨#[]⟩, .int .i64 0, .string C, .agg (adv (⟨true, id, ip, false, port, mac⟩ : Ad)), .bool true, .bool false, .pointer (some ⟨b0, 0, none⟩), .bool true, .string ⟨#[49]⟩, .pointer (some ⟨b0, 1, none⟩), .int .i64 (i : Int), .int .u64 (i : Int), .string A, .pointer (some ⟨b0, 2, none⟩), .string ip, .string C, undef, undef, undef, undef, undef, undef, undef, undef, undef, undef, undef], []⟩ (by kernel_rfl) (by kernel_rfl) ?_
  have HCW := HC.out.below B1 HC.out.lt
  have HBE := Lib.hid (HBV.out.trans (B1.mono HBV.out.size))
  have c3 := HCW.cell 3
  have c4 := HCW.cell 4
  have c5 := HCW.cell 5
  simp only [List.getElem?_toArray, List.getElem?_cons_zero, List.getElem?_cons_succ] at c3 c4 c5
  clear B1 HCW c0
  have hcat := fun W => run_string_add (P := Try.prog) W C mac (by have := HSZ.out.2.2.1; omega) (by have := HSZ.out.2.2.2.2; omega)
  rw [show C ++ mac = T by rw [HQ.out, HTT.out]] at hcat
  go_wp2_with fail
  exact ret_two 2 3 (.string T) (.int .i64 0) (by kernel_rfl) (by kernel_rfl) (by kernel_rfl) (by kernel_rfl) ⟨rfl, by have q := HBE.out; first | exact q | (rw [HB0.out]; exact q)⟩
set_option maxHeartbeats 1000000 in
set_option maxRecDepth 100000 in
theorem encR_ft (id : Int) (ip : ByteArray) (port : Int) (mac : ByteArray) (hm : Ad.May (⟨false, id, ip, true, port, mac⟩ : Ad)) (w : World) :
    Calls Try.prog 10 #[.agg (adv (⟨false, id, ip, true, port, mac⟩ : Ad))] w fun e w' => e = .returned (encV (⟨false, id, ip, true, port, mac⟩ : Ad)) ∧ Below w.heap.size w w' := by
  rw [encV_t _ hm]
  obtain ⟨T, hT⟩ : ∃ T, T = txt (Ad.body (⟨false, id, ip, true, port, mac⟩ : Ad)) := ⟨_, rfl⟩
  rw [← hT]
  have i0 : 0 ≤ id ∧ id ≤ 255 := hm.1
  have p0 : 0 ≤ port ∧ port ≤ 65535 := hm.2.2.1
  have z4 : ip.size = 4 ∨ ip.size = 16 := hm.2.1
  have zm : mac.size = macOf false := hm.2.2.2.2
  have zm8 : mac.size ≤ 8 := by rw [zm]; decide
  obtain ⟨i, hi⟩ : ∃ i : Nat, id = (i : Int) := ⟨id.toNat, by omega⟩
  have h255 : i ≤ 255 := by omega
  obtain ⟨A, hA⟩ : ∃ A, A = (⟨#[48]⟩ : ByteArray) ++ txt (be 1 i) := ⟨_, rfl⟩
  obtain ⟨C, hC⟩ : ∃ C, C = A ++ ip := ⟨_, rfl⟩
  obtain ⟨Q, hQ⟩ : ∃ Q, Q = C ++ txt (Ad.ports (⟨false, id, ip, true, port, mac⟩ : Ad)) := ⟨_, rfl⟩
  have hT2 : T = Q ++ mac := by rw [hT, hQ, hC, hA]; exact (body_sum (⟨false, id, ip, true, port, mac⟩ : Ad) i hi).symm
  have sA : A.size = 2 := by rw [hA, ByteArray.size_append, be_len]; rfl
  have sC : C.size ≤ 18 := by rw [hC, ByteArray.size_append]; omega
  have sQ : Q.size ≤ 20 := by
    rw [hQ, ByteArray.size_append, txt_size, Ad.ports_length]
    have : portOf true ≤ 2 := by decide
    show C.size + portOf true ≤ 20
    omega
  have HSZ := Lib.hid (show A.size ≤ 20 ∧ ip.size ≤ 20 ∧ C.size ≤ 18 ∧ Q.size ≤ 20 ∧ mac.size ≤ 8 from ⟨by omega, by omega, sC, sQ, zm8⟩)
  have HA := Lib.hid (show (⟨#[48]⟩ : ByteArray) ++ ⟨(be 1 i).toArray⟩ = A from hA.symm)
  have HCC := Lib.hid hC
  have HTT := Lib.hid hT2
  have HI := Lib.hid hi
  have HI2 := Lib.hid h255
  have HM := Lib.hid hm
  obtain ⟨n, hn⟩ : ∃ n : Nat, port = (n : Int) := ⟨port.toNat, by omega⟩
  subst hn
  have hn : n ≤ 65535 := by omega
  have HQ := Lib.hid (show C ++ ⟨(be 2 n).toArray⟩ = Q by rw [hQ]; rfl)
  have HN := Lib.hid hn
  obtain ⟨w0, hw0⟩ : ∃ w0, w0 = w.alloc (.cells (adv (⟨false, id, ip, true, (n : Int), mac⟩ : Ad)) 23) := ⟨_, rfl⟩
  obtain ⟨b0, hb0⟩ : ∃ b0, b0 = w.heap.size := ⟨_, rfl⟩
  have hc0 : Blk w0 b0 23 (adv (⟨false, id, ip, true, (n : Int), mac⟩ : Ad)) := by rw [hw0, hb0]; exact Blk.new _ _ _
  have HC0 := Lib.hid hc0
  have HBW := Lib.hid (show Below w.heap.size w w0 by rw [hw0]; exact (Below.refl _ w).alloc (Nat.le_refl _) _)
  have HW0 := Lib.hid hw0
  have HB0 := Lib.hid hb0
  have HC1 := hc0
  rw [hw0, hb0] at HC1
  have HCC0 := Lib.hid HC1
  clear hT hT2 hi hA hC hQ sA sC sQ zm zm8 z4 i0 p0 hw0 hb0 hc0 HC1 hm h255 hn
  go_enter Try.func10, Try.ntmps10
  go_wp2_with (refine wpList_load_row rfl 23 _ rfl w.heap.size rfl 23 (adv (⟨false, id, ip, true, (n : Int), mac⟩ : Ad)) (0, 0) _ ?_ Try.underlying23 rfl ad_size ?_; exact HCC0.out)
  rw [← HW0.out, ← HB0.out]
  refine (MayAdd_any (⟨false, id, ip, true, (n : Int), mac⟩ : Ad) _).mono ?_
  rintro e V ⟨rfl, bv⟩
  rw [decide_eq_true HM.out]
  have hcv := HC0.out.below bv HC0.out.lt
  have HC := Lib.hid hcv
  have HBV := Lib.hid (HBW.out.trans (bv.mono HBW.out.size))
  have c0 := hcv.cell 0
  simp only [List.getElem?_toArray, List.getElem?_cons_zero] at c0
  clear bv HC0 HBW HW0 HCC0 hcv
  go_upto_region 6 with fail
  have B0 : Below V.heap.size V V.drew := (Below.refl _ V).drew
  refine held_start (fun W => Below V.heap.size V W) (by kernel_rfl) (n := 9) rfl ?_
  obtain ⟨W0, hW0⟩ : ∃ W0, W0 = V.drew := ⟨_, rfl⟩
  rw [← hW0] at B0 ⊢
  clear hW0
  refine held_free 0 (.string ⟨#[48]⟩) rfl (by kernel_rfl) (by kernel_rfl) (by kernel_rfl) (by kernel_rfl) B0 (fun _ _ => by kernel_rfl) ?_
  refine held_free 1 (.pointer (some ⟨b0, 1, none⟩)) rfl (by kernel_rfl) (by kernel_rfl) (by kernel_rfl) (by kernel_rfl) B0 (fun _ _ => ex_field (v := .pointer (some ⟨b0, 0, none⟩)) 23 (.tmp 1) 1 (by kernel_rfl) (by kernel_rfl) (by kernel_rfl)) ?_
  refine held_free 2 (.int .i64 (i : Int)) rfl (by kernel_rfl) (by kernel_rfl) (by kernel_rfl) (by kernel_rfl) B0 (fun W b => ex_load 3 (.tmp 11) (by kernel_rfl) ⟨b0, 1, none⟩ (by kernel_rfl) (by kernel_rfl) (((HC.out.below b HC.out.lt).cell 1).trans (congrArg (fun z : Int => some (Value.int .i64 z)) HI.out))) ?_
  refine held_free 3 (.int .u64 (i : Int)) rfl (by kernel_rfl) (by kernel_rfl) (by kernel_rfl) (by kernel_rfl) B0 (fun W _ => ex_convert_to (v := .int .i64 (i : Int)) 3 57 (.tmp 12) (by kernel_rfl) (by kernel_rfl) (conv_i64_u64 i (by have := HI2.out; omega) W)) ?_
  refine held_free 5 (.pointer (some ⟨b0, 2, none⟩)) rfl (by kernel_rfl) (by kernel_rfl) (by kernel_rfl) (by kernel_rfl) B0 (fun _ _ => ex_field (v := .pointer (some ⟨b0, 0, none⟩)) 23 (.tmp 1) 2 (by kernel_rfl) (by kernel_rfl) (by kernel_rfl)) ?_
  refine held_free 6 (.string ip) rfl (by kernel_rfl) (by kernel_rfl) (by kernel_rfl) (by kernel_rfl) B0 (fun W b => ex_load 9 (.tmp 15) (by kernel_rfl) ⟨b0, 2, none⟩ (by kernel_rfl) (by kernel_rfl) ((HC.out.below b HC.out.lt).cell 2)) ?_
  refine held_call 4 rfl (by kernel_rfl) (by kernel_rfl) (by kernel_rfl) (answer (Put_ref ⟨#[48]⟩ i 1 _ (by decide) (by have := HI2.out; omega) (by decide)) (congrArg Value.string HA.out)) (fun w' h => bel_in B0 h) ?_
  intro W1 hW1
  have B1 := bel_in B0 hW1
  clear hW1 B0
  refine held_free 7 (.string C) rfl (by kernel_rfl) (by kernel_rfl) (by kernel_rfl) (by kernel_rfl) B1 (fun _ _ => ex_strcat 9 9 (.tmp 14) (.tmp 16) (by kernel_rfl) (A) (ip) C (by kernel_rfl) (by kernel_rfl) (by have := HSZ.out.1; omega) (by have := HSZ.out.2.1; omega) HCC.out) ?_
  refine held_free 8 (.string C) rfl (by kernel_rfl) (by kernel_rfl) (by kernel_rfl) (by kernel_rfl) B1 (fun _ _ => by kernel_rfl) ?_
  refine held_end_at ⟨#[.agg (adv (⟨false, id, ip, true, (n : Int), mac⟩ : Ad)), .pointer (some ⟨b0, 0, none⟩), .string ⟨#[]⟩, .int .i64 0, .string C, .agg (adv (⟨false, id, ip, true, (n : Int), mac⟩ : Ad)), .bool true, .bool false, .pointer (some ⟨b0, 0, none⟩), .bool false, .string ⟨#[48]⟩, .pointer (some ⟨b0, 1, none⟩), .int .i64 (i : Int), .int .u64 (i : Int), .string A, .pointer (some ⟨b0, 2, none⟩), .string ip, .string C, undef, undef, undef, undef, undef, undef, undef, undef, undef, undef, undef], []⟩ (by kernel_rfl) (by kernel_rfl) ?_
  have HCW := HC.out.below B1 HC.out.lt
  have HBE := Lib.hid (HBV.out.trans (B1.mono HBV.out.size))
  have c3 := HCW.cell 3
  have c4 := HCW.cell 4
  have c5 := HCW.cell 5
  simp only [List.getElem?_toArray, List.getElem?_cons_zero, List.getElem?_cons_succ] at c3 c4 c5
  have hcn := conv_i64_u64 n (by have := HN.out; omega)
  have HCX := Lib.hid HCW
  clear B1 HCW c5 c0
  go_wp2_with fail
  refine (answer (Put_ref C n 2 _ (by have := HSZ.out.2.2.1; omega) (by have := HN.out; omega) (by decide)) (congrArg Value.string HQ.out)).mono ?_
  rintro e W9 ⟨rfl, b⟩
  have c5 := (HCX.out.below b HCX.out.lt).cell 5
  simp only [List.getElem?_toArray, List.getElem?_cons_zero, List.getElem?_cons_succ] at c5
  have HBE := Lib.hid (HBE.out.trans (b.mono HBE.out.size))
  clear b c3 c4 hcn
  have hcat := fun W => run_string_add (P := Try.prog) W Q mac (by have := HSZ.out.2.2.2.1; omega) (by have := HSZ.out.2.2.2.2; omega)
  rw [← HTT.out] at hcat
  go_wp2_with fail
  exact ret_two 2 3 (.string T) (.int .i64 0) (by kernel_rfl) (by kernel_rfl) (by kernel_rfl) (by kernel_rfl) ⟨rfl, by have q := HBE.out; first | exact q | (rw [HB0.out]; exact q)⟩
set_option maxHeartbeats 1000000 in
set_option maxRecDepth 100000 in
theorem encR_ff (id : Int) (ip : ByteArray) (port : Int) (mac : ByteArray) (hm : Ad.May (⟨false, id, ip, false, port, mac⟩ : Ad)) (w : World) :
    Calls Try.prog 10 #[.agg (adv (⟨false, id, ip, false, port, mac⟩ : Ad))] w fun e w' => e = .returned (encV (⟨false, id, ip, false, port, mac⟩ : Ad)) ∧ Below w.heap.size w w' := by
  rw [encV_t _ hm]
  obtain ⟨T, hT⟩ : ∃ T, T = txt (Ad.body (⟨false, id, ip, false, port, mac⟩ : Ad)) := ⟨_, rfl⟩
  rw [← hT]
  have i0 : 0 ≤ id ∧ id ≤ 255 := hm.1
  have p0 : 0 ≤ port ∧ port ≤ 65535 := hm.2.2.1
  have z4 : ip.size = 4 ∨ ip.size = 16 := hm.2.1
  have zm : mac.size = macOf false := hm.2.2.2.2
  have zm8 : mac.size ≤ 8 := by rw [zm]; decide
  obtain ⟨i, hi⟩ : ∃ i : Nat, id = (i : Int) := ⟨id.toNat, by omega⟩
  have h255 : i ≤ 255 := by omega
  obtain ⟨A, hA⟩ : ∃ A, A = (⟨#[48]⟩ : ByteArray) ++ txt (be 1 i) := ⟨_, rfl⟩
  obtain ⟨C, hC⟩ : ∃ C, C = A ++ ip := ⟨_, rfl⟩
  obtain ⟨Q, hQ⟩ : ∃ Q, Q = C ++ txt (Ad.ports (⟨false, id, ip, false, port, mac⟩ : Ad)) := ⟨_, rfl⟩
  have hT2 : T = Q ++ mac := by rw [hT, hQ, hC, hA]; exact (body_sum (⟨false, id, ip, false, port, mac⟩ : Ad) i hi).symm
  have sA : A.size = 2 := by rw [hA, ByteArray.size_append, be_len]; rfl
  have sC : C.size ≤ 18 := by rw [hC, ByteArray.size_append]; omega
  have sQ : Q.size ≤ 20 := by
    rw [hQ, ByteArray.size_append, txt_size, Ad.ports_length]
    have : portOf false ≤ 2 := by decide
    show C.size + portOf false ≤ 20
    omega
  have HSZ := Lib.hid (show A.size ≤ 20 ∧ ip.size ≤ 20 ∧ C.size ≤ 18 ∧ Q.size ≤ 20 ∧ mac.size ≤ 8 from ⟨by omega, by omega, sC, sQ, zm8⟩)
  have HA := Lib.hid (show (⟨#[48]⟩ : ByteArray) ++ ⟨(be 1 i).toArray⟩ = A from hA.symm)
  have HCC := Lib.hid hC
  have HTT := Lib.hid hT2
  have HI := Lib.hid hi
  have HI2 := Lib.hid h255
  have HM := Lib.hid hm
  have HQ := Lib.hid (show C = Q by rw [hQ]; exact (cat_nil C).symm)
  obtain ⟨w0, hw0⟩ : ∃ w0, w0 = w.alloc (.cells (adv (⟨false, id, ip, false, port, mac⟩ : Ad)) 23) := ⟨_, rfl⟩
  obtain ⟨b0, hb0⟩ : ∃ b0, b0 = w.heap.size := ⟨_, rfl⟩
  have hc0 : Blk w0 b0 23 (adv (⟨false, id, ip, false, port, mac⟩ : Ad)) := by rw [hw0, hb0]; exact Blk.new _ _ _
  have HC0 := Lib.hid hc0
  have HBW := Lib.hid (show Below w.heap.size w w0 by rw [hw0]; exact (Below.refl _ w).alloc (Nat.le_refl _) _)
  have HW0 := Lib.hid hw0
  have HB0 := Lib.hid hb0
  have HC1 := hc0
  rw [hw0, hb0] at HC1
  have HCC0 := Lib.hid HC1
  clear hT hT2 hi hA hC hQ sA sC sQ zm zm8 z4 i0 p0 hw0 hb0 hc0 HC1 hm h255
  go_enter Try.func10, Try.ntmps10
  go_wp2_with (refine wpList_load_row rfl 23 _ rfl w.heap.size rfl 23 (adv (⟨false, id, ip, false, port, mac⟩ : Ad)) (0, 0) _ ?_ Try.underlying23 rfl ad_size ?_; exact HCC0.out)
  rw [← HW0.out, ← HB0.out]
  refine (MayAdd_any (⟨false, id, ip, false, port, mac⟩ : Ad) _).mono ?_
  rintro e V ⟨rfl, bv⟩
  rw [decide_eq_true HM.out]
  have hcv := HC0.out.below bv HC0.out.lt
  have HC := Lib.hid hcv
  have HBV := Lib.hid (HBW.out.trans (bv.mono HBW.out.size))
  have c0 := hcv.cell 0
  simp only [List.getElem?_toArray, List.getElem?_cons_zero] at c0
  clear bv HC0 HBW HW0 HCC0 hcv
  go_upto_region 6 with fail
  have B0 : Below V.heap.size V V.drew := (Below.refl _ V).drew
  refine held_start (fun W => Below V.heap.size V W) (by kernel_rfl) (n := 9) rfl ?_
  obtain ⟨W0, hW0⟩ : ∃ W0, W0 = V.drew := ⟨_, rfl⟩
  rw [← hW0] at B0 ⊢
  clear hW0
  refine held_free 0 (.string ⟨#[48]⟩) rfl (by kernel_rfl) (by kernel_rfl) (by kernel_rfl) (by kernel_rfl) B0 (fun _ _ => by kernel_rfl) ?_
  refine held_free 1 (.pointer (some ⟨b0, 1, none⟩)) rfl (by kernel_rfl) (by kernel_rfl) (by kernel_rfl) (by kernel_rfl) B0 (fun _ _ => ex_field (v := .pointer (some ⟨b0, 0, none⟩)) 23 (.tmp 1) 1 (by kernel_rfl) (by kernel_rfl) (by kernel_rfl)) ?_
  refine held_free 2 (.int .i64 (i : Int)) rfl (by kernel_rfl) (by kernel_rfl) (by kernel_rfl) (by kernel_rfl) B0 (fun W b => ex_load 3 (.tmp 11) (by kernel_rfl) ⟨b0, 1, none⟩ (by kernel_rfl) (by kernel_rfl) (((HC.out.below b HC.out.lt).cell 1).trans (congrArg (fun z : Int => some (Value.int .i64 z)) HI.out))) ?_
  refine held_free 3 (.int .u64 (i : Int)) rfl (by kernel_rfl) (by kernel_rfl) (by kernel_rfl) (by kernel_rfl) B0 (fun W _ => ex_convert_to (v := .int .i64 (i : Int)) 3 57 (.tmp 12) (by kernel_rfl) (by kernel_rfl) (conv_i64_u64 i (by have := HI2.out; omega) W)) ?_
  refine held_free 5 (.pointer (some ⟨b0, 2, none⟩)) rfl (by kernel_rfl) (by kernel_rfl) (by kernel_rfl) (by kernel_rfl) B0 (fun _ _ => ex_field (v := .pointer (some ⟨b0, 0, none⟩)) 23 (.tmp 1) 2 (by kernel_rfl) (by kernel_rfl) (by kernel_rfl)) ?_
  refine held_free 6 (.string ip) rfl (by kernel_rfl) (by kernel_rfl) (by kernel_rfl) (by kernel_rfl) B0 (fun W b => ex_load 9 (.tmp 15) (by kernel_rfl) ⟨b0, 2, none⟩ (by kernel_rfl) (by kernel_rfl) ((HC.out.below b HC.out.lt).cell 2)) ?_
  refine held_call 4 rfl (by kernel_rfl) (by kernel_rfl) (by kernel_rfl) (answer (Put_ref ⟨#[48]⟩ i 1 _ (by decide) (by have := HI2.out; omega) (by decide)) (congrArg Value.string HA.out)) (fun w' h => bel_in B0 h) ?_
  intro W1 hW1
  have B1 := bel_in B0 hW1
  clear hW1 B0
  refine held_free 7 (.string C) rfl (by kernel_rfl) (by kernel_rfl) (by kernel_rfl) (by kernel_rfl) B1 (fun _ _ => ex_strcat 9 9 (.tmp 14) (.tmp 16) (by kernel_rfl) (A) (ip) C (by kernel_rfl) (by kernel_rfl) (by have := HSZ.out.1; omega) (by have := HSZ.out.2.1; omega) HCC.out) ?_
  refine held_free 8 (.string C) rfl (by kernel_rfl) (by kernel_rfl) (by kernel_rfl) (by kernel_rfl) B1 (fun _ _ => by kernel_rfl) ?_
  refine held_end_at ⟨#[.agg (adv (⟨false, id, ip, false, port, mac⟩ : Ad)), .pointer (some ⟨b0, 0, none⟩), .string ⟨#[]⟩, .int .i64 0, .string C, .agg (adv (⟨false, id, ip, false, port, mac⟩ : Ad)), .bool true, .bool false, .pointer (some ⟨b0, 0, none⟩), .bool false, .string ⟨#[48]⟩, .pointer (some ⟨b0, 1, none⟩), .int .i64 (i : Int), .int .u64 (i : Int), .string A, .pointer (some ⟨b0, 2, none⟩), .string ip, .string C, undef, undef, undef, undef, undef, undef, undef, undef, undef, undef, undef], []⟩ (by kernel_rfl) (by kernel_rfl) ?_
  have HCW := HC.out.below B1 HC.out.lt
  have HBE := Lib.hid (HBV.out.trans (B1.mono HBV.out.size))
  have c3 := HCW.cell 3
  have c4 := HCW.cell 4
  have c5 := HCW.cell 5
  simp only [List.getElem?_toArray, List.getElem?_cons_zero, List.getElem?_cons_succ] at c3 c4 c5
  clear B1 HCW c0
  have hcat := fun W => run_string_add (P := Try.prog) W C mac (by have := HSZ.out.2.2.1; omega) (by have := HSZ.out.2.2.2.2; omega)
  rw [show C ++ mac = T by rw [HQ.out, HTT.out]] at hcat
  go_wp2_with fail
  exact ret_two 2 3 (.string T) (.int .i64 0) (by kernel_rfl) (by kernel_rfl) (by kernel_rfl) (by kernel_rfl) ⟨rfl, by have q := HBE.out; first | exact q | (rw [HB0.out]; exact q)⟩
theorem encR_no (x : Ad) (hm : ¬ x.May) (w : World) :
    Calls Try.prog 10 #[.agg (adv x)] w fun e w' => e = .returned (encV x) ∧ Below w.heap.size w w' := by
  rw [encV_f x hm]
  have HCC0 := Lib.hid (Blk.new w 23 (adv x))
  have HB := Lib.hid ((Below.refl _ w).alloc (Nat.le_refl _) (.cells (adv x) 23))
  have HM := Lib.hid hm
  clear hm
  go_enter Try.func10, Try.ntmps10
  go_wp2_with (refine wpList_load_row rfl 23 _ rfl w.heap.size rfl 23 (adv x) (0, 0) _ ?_ Try.underlying23 rfl ad_size ?_; exact HCC0.out)
  refine (MayAdd_any x _).mono ?_
  rintro e V ⟨rfl, bv⟩
  rw [decide_eq_false HM.out]
  have HBV := Lib.hid (HB.out.trans (bv.mono HB.out.size))
  clear bv
  go_wp2_with fail
  exact ret_two 2 3 (.string ⟨#[]⟩) (.int .i64 2) rfl rfl rfl rfl ⟨rfl, HBV.out⟩
theorem EncodeAddR_any (x : Ad) (w : World) :
    Calls Try.prog 10 #[.agg (adv x)] w fun e w' => e = .returned (encV x) ∧ Below w.heap.size w w' := by
  by_cases hm : x.May
  · obtain ⟨echo, id, ip, hp, port, mac⟩ := x
    cases echo <;> cases hp
    · exact encR_ff id ip port mac hm w
    · exact encR_ft id ip port mac hm w
    · exact encR_tf id ip port mac hm w
    · exact encR_tt id ip port mac hm w
  · exact encR_no x hm w
theorem EncodeRemoveR_any (s : ByteArray) (hs : s.size ≤ 4611686018427387904) (w : World) :
    Calls Try.prog 12 #[.agg (rmv s)] w fun e w' => e = .returned (encRV s) ∧ Below w.heap.size w w' := by
  by_cases hm : 1 ≤ s.size ∧ s.size ≤ 37
  · rw [encRV_t s hm]
    have l1 : ¬ (s.size : Int) < 1 := by omega
    have l2 : ¬ (37 : Int) < (s.size : Int) := by omega
    obtain ⟨T, hT⟩ : ∃ T, T = txt (64 :: s.data.toList) := ⟨_, rfl⟩
    rw [← hT]
    have hcat := fun W => run_string_add (P := Try.prog) W ⟨#[64]⟩ s (by decide) (by omega)
    rw [show (⟨#[64]⟩ : ByteArray) ++ s = T by rw [hT, ← txt_of s]; exact txt_app [64] _] at hcat
    clear hT hm
    go_enter Try.func12, Try.ntmps12
    go_wp2
    exact ret_two 2 3 (.string T) (.int .i64 0) rfl rfl rfl rfl ⟨rfl, (Below.refl _ _).alloc (Nat.le_refl _) _⟩
  · rw [encRV_f s hm]
    by_cases l1 : (s.size : Int) < 1
    · clear hm
      go_enter Try.func12, Try.ntmps12
      go_wp2
      exact ret_two 2 3 (.string ⟨#[]⟩) (.int .i64 2) rfl rfl rfl rfl ⟨rfl, (Below.refl _ _).alloc (Nat.le_refl _) _⟩
    · have l2 : (37 : Int) < (s.size : Int) := by omega
      clear hm
      go_enter Try.func12, Try.ntmps12
      go_wp2
      exact ret_two 2 3 (.string ⟨#[]⟩) (.int .i64 2) rfl rfl rfl rfl ⟨rfl, (Below.refl _ _).alloc (Nat.le_refl _) _⟩
end Go.Proofs.Ytcofdiamlmlhfaa
