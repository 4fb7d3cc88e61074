/-
  The document's own Encode of layer 11 (plaitref11), by its walk.
-/
import Derived.Test.YtdhkjhkgjfcolaaDssMay
import Derived.Test.YtdhkjhkgjfcolaaDssEnc
namespace Go.Proofs.Ytdhkjhkgjfcolaa
open Go.ChangeShapes Go.WideShapes Go.ChangeAt Go.RowKit
set_option linter.unusedVariables false

theorem bitR_b (l : Bool) (n : Nat) (w : World) : Calls Try.prog 25 #[.bool l, .int .u64 (n : Int)] w fun e w' => e = .returned (.int .u64 (bitN l n : Nat)) ∧ Below w.heap.size w w' := (bitR_any l n w).mono fun _ _ h => ⟨h.1, by rw [← h.2]; exact Below.refl _ _⟩
theorem wideR_b (l : Bool) (w : World) : Calls Try.prog 26 #[.bool l] w fun e w' => e = .returned (.int .i64 (wA true l : Nat)) ∧ Below w.heap.size w w' := (wideR_any l w).mono fun _ _ h => ⟨h.1, by rw [← h.2]; exact Below.refl _ _⟩
theorem bitN_le (l : Bool) (n : Nat) : bitN l n ≤ n := by unfold bitN; split <;> omega
theorem ex_add64 {ρ : Operand → Value} {o : Oper} {w : World} (t u : TypeId) (x y : Operand) (ho : o.op = .binOp .add t x y u) (a b : Nat) (hx : ρ x = .int .u64 (a : Int)) (hy : ρ y = .int .u64 (b : Int)) (ht : Try.prog.underlying t = some (.int .u64)) (h : a + b ≤ 18446744073709551615) :
    (execOp ρ o).run Try.prog w = .ok (.value (.int .u64 ((a + b : Nat) : Int))) w := by
  have e : IntKind.u64.wrap ((a : Int) + (b : Int)) = (a : Int) + (b : Int) := by rw [IntKind.wrap_u64]; omega
  unfold execOp
  rw [ho]
  simp [hx, hy, go_sem, e]
theorem conv_w (t u : TypeId) (k k' : IntKind) (a b : Int) (hk : (Try.prog.underlying t).isSome = true) (hi : Try.prog.intKind u = k') (hk' : Try.prog.underlying u = some (.int k')) (h : k'.wrap a = b) (w : World) : (convert t u (.int k a)).run Try.prog w = .ok (.int k' b) w := by
  rw [run_convert_int w t u k a hk (by rw [hi]; exact hk'), hi, h]
theorem txt_small (m n : Nat) : (txt (be m n)).size = m := by rw [txt_size, be_length]
set_option maxHeartbeats 2000000 in
set_option maxRecDepth 100000 in
theorem encR_tff (fin : Bool) (la : Bool) (ack : Nat) (ld : Bool) (dsn : Nat) (ssn : Nat) (len : Nat) (sum : Nat) (hx : Ds.Ok (⟨fin, true, la, ack, false, ld, dsn, ssn, (len : Int), false, sum⟩ : Ds)) (hm : Ds.May (⟨fin, true, la, ack, false, ld, dsn, ssn, (len : Int), false, sum⟩ : Ds)) (w : World) :
    Calls Try.prog 11 #[.agg (dsv (⟨fin, true, la, ack, false, ld, dsn, ssn, (len : Int), false, sum⟩ : Ds))] w fun e w' => e = .returned (encV (⟨fin, true, la, ack, false, ld, dsn, ssn, (len : Int), false, sum⟩ : Ds)) ∧ Below w.heap.size w w' := by
  have HX0 := Lib.hid hx
  have HM := Lib.hid hm
  obtain ⟨V, hV⟩ : ∃ V, V = encV (⟨fin, true, la, ack, false, ld, dsn, ssn, (len : Int), false, sum⟩ : Ds) := ⟨_, rfl⟩
  rw [← hV]
  rw [encV_t _ hm] at hV
  have HVV := Lib.hid hV
  clear hx hm hV
  have hok := HX0.out
  have hm0 := HM.out
  have HR := Lib.hid (show ssn ≤ 4294967295 ∧ len ≤ 65535 ∧ sum ≤ 65535 from ⟨hok.ssn, by have q := hm0.2.2.2.2.2; simp only [] at q; omega, hok.sum⟩)
  have z0 : (⟨#[32]⟩ : ByteArray).size ≤ 1 := by decide
  have hm1' : 1 ≤ 1 ∧ 1 ≤ 1 := by omega
  obtain ⟨t1, ht1⟩ : ∃ t, txt (be 1 (Ds.bits (⟨fin, true, la, ack, false, ld, dsn, ssn, (len : Int), false, sum⟩ : Ds))) = t := ⟨_, rfl⟩
  have y1 : t1.size ≤ 1 := by rw [← ht1, txt_small]; omega
  obtain ⟨T1, hT1⟩ : ∃ T, T = (⟨#[32]⟩ : ByteArray) ++ t1 := ⟨_, rfl⟩
  have z1 : T1.size ≤ 2 := by rw [hT1, ByteArray.size_append]; omega
  have HN1 := Lib.hid (show (Ds.bits (⟨fin, true, la, ack, false, ld, dsn, ssn, (len : Int), false, sum⟩ : Ds)) ≤ 18446744073709551615 ∧ 1 ≤ 1 ∧ 1 ≤ 8 from ⟨by have := Ds.bits_lt (⟨fin, true, la, ack, false, ld, dsn, ssn, (len : Int), false, sum⟩ : Ds); omega, hm1'.1, by omega⟩)
  have HT1 := Lib.hid ht1
  have HC1 := Lib.hid (show ((⟨#[32]⟩ : ByteArray).size : Int) ≤ 8388608 ∧ (t1.size : Int) ≤ 8388608 ∧ T1 = (⟨#[32]⟩ : ByteArray) ++ t1 from ⟨by omega, by omega, hT1⟩)
  have hm2' : 1 ≤ (wA true la) ∧ (wA true la) ≤ 8 := by cases la <;> decide
  obtain ⟨t2, ht2⟩ : ∃ t, txt (be (wA true la) ack) = t := ⟨_, rfl⟩
  have y2 : t2.size ≤ 8 := by rw [← ht2, txt_small]; omega
  obtain ⟨T2, hT2⟩ : ∃ T, T = T1 ++ t2 := ⟨_, rfl⟩
  have z2 : T2.size ≤ 10 := by rw [hT2, ByteArray.size_append]; omega
  have HN2 := Lib.hid (show ack ≤ 18446744073709551615 ∧ 1 ≤ (wA true la) ∧ (wA true la) ≤ 8 from ⟨hok.ack, hm2'.1, by omega⟩)
  have HT2 := Lib.hid ht2
  have HC2 := Lib.hid (show (T1.size : Int) ≤ 8388608 ∧ (t2.size : Int) ≤ 8388608 ∧ T2 = T1 ++ t2 from ⟨by omega, by omega, hT2⟩)
  have hTb : T2 = txt (Ds.body (⟨fin, true, la, ack, false, ld, dsn, ssn, (len : Int), false, sum⟩ : Ds)) := by
    rw [hT2, hT1, ← ht1, ← ht2, show (⟨#[32]⟩ : ByteArray) = txt [32] from rfl]
    simp only [txt_app]
    simp [Ds.body, Ds.rest, w4, w2, wA, be]
  have HV2 := Lib.hid (show V = .tuple #[.string T2, .int .i64 0] by rw [HVV.out, hTb])
  obtain ⟨b0, hb0⟩ : ∃ b, b = w.heap.size := ⟨_, rfl⟩
  have hx0 : Blk (w.alloc (.cells (dsv (⟨fin, true, la, ack, false, ld, dsn, ssn, (len : Int), false, sum⟩ : Ds)) 26)) b0 26 (dsv (⟨fin, true, la, ack, false, ld, dsn, ssn, (len : Int), false, sum⟩ : Ds)) := by rw [hb0]; exact Blk.new _ _ _
  have hlt : b0 < (w.alloc (.cells (dsv (⟨fin, true, la, ack, false, ld, dsn, ssn, (len : Int), false, sum⟩ : Ds)) 26)).heap.size := hx0.lt
  have HB := Lib.hid ((Below.refl _ w).alloc (Nat.le_refl _) (.cells (dsv (⟨fin, true, la, ack, false, ld, dsn, ssn, (len : Int), false, sum⟩ : Ds)) 26))
  have HXW := Lib.hid hx0
  have HBE := Lib.hid hb0
  clear hok hm0 hx0 hlt hb0 z0 hTb hm1' ht1 y1 hT1 z1 hm2' ht2 y2 hT2 z2
  go_enter Try.func11, Try.ntmps11
  go_wp2_with (refine wpList_load_row rfl 26 _ rfl w.heap.size rfl 26 (dsv (⟨fin, true, la, ack, false, ld, dsn, ssn, (len : Int), false, sum⟩ : Ds)) (0, 0) _ ?_ Try.underlying26 rfl ds_size ?_; have q := HXW.out; rw [HBE.out] at q; exact q)
  refine (MayR_any (⟨fin, true, la, ack, false, ld, dsn, ssn, (len : Int), false, sum⟩ : Ds) _).mono ?_
  rintro e V0 ⟨rfl, b⟩
  rw [decide_eq_true HM.out]
  have HX1 := Lib.hid (HXW.out.below b HXW.out.lt)
  have HB1 := Lib.hid (HB.out.trans (b.mono HB.out.size))
  clear b HXW HB
  go_upto_region 3 with fail
  rw [← HBE.out]
  have B0 : Below V0.heap.size V0 V0.drew := (Below.refl _ V0).drew
  refine held_start (fun W => Below V0.heap.size V0 W) (by kernel_rfl) (n := 22) rfl ?_
  obtain ⟨W0, hW0⟩ : ∃ W0, W0 = V0.drew := ⟨_, rfl⟩
  rw [← hW0] at B0 ⊢
  clear hW0
  refine held_free 0 (.pointer (some ⟨b0, 1, none⟩)) rfl (by kernel_rfl) (by kernel_rfl) (by kernel_rfl) (by kernel_rfl) B0 (fun _ _ => ex_field (v := .pointer (some ⟨b0, 0, none⟩)) 26 (.tmp 1) 1 (by kernel_rfl) (by kernel_rfl) (by kernel_rfl)) ?_
  refine held_free 1 (.bool true) rfl (by kernel_rfl) (by kernel_rfl) (by kernel_rfl) (by kernel_rfl) B0 (fun W b => ex_load 4 (.tmp 8) (by kernel_rfl) ⟨b0, 1, none⟩ (by kernel_rfl) (by kernel_rfl) ((HX1.out.below b HX1.out.lt).cell 1)) ?_
  refine held_free 3 (.pointer (some ⟨b0, 2, none⟩)) rfl (by kernel_rfl) (by kernel_rfl) (by kernel_rfl) (by kernel_rfl) B0 (fun _ _ => ex_field (v := .pointer (some ⟨b0, 0, none⟩)) 26 (.tmp 1) 2 (by kernel_rfl) (by kernel_rfl) (by kernel_rfl)) ?_
  refine held_free 4 (.bool la) rfl (by kernel_rfl) (by kernel_rfl) (by kernel_rfl) (by kernel_rfl) B0 (fun W b => ex_load 4 (.tmp 11) (by kernel_rfl) ⟨b0, 2, none⟩ (by kernel_rfl) (by kernel_rfl) ((HX1.out.below b HX1.out.lt).cell 2)) ?_
  refine held_free 7 (.pointer (some ⟨b0, 4, none⟩)) rfl (by kernel_rfl) (by kernel_rfl) (by kernel_rfl) (by kernel_rfl) B0 (fun _ _ => ex_field (v := .pointer (some ⟨b0, 0, none⟩)) 26 (.tmp 1) 4 (by kernel_rfl) (by kernel_rfl) (by kernel_rfl)) ?_
  refine held_free 8 (.bool false) rfl (by kernel_rfl) (by kernel_rfl) (by kernel_rfl) (by kernel_rfl) B0 (fun W b => ex_load 4 (.tmp 15) (by kernel_rfl) ⟨b0, 4, none⟩ (by kernel_rfl) (by kernel_rfl) ((HX1.out.below b HX1.out.lt).cell 4)) ?_
  refine held_free 11 (.pointer (some ⟨b0, 5, none⟩)) rfl (by kernel_rfl) (by kernel_rfl) (by kernel_rfl) (by kernel_rfl) B0 (fun _ _ => ex_field (v := .pointer (some ⟨b0, 0, none⟩)) 26 (.tmp 1) 5 (by kernel_rfl) (by kernel_rfl) (by kernel_rfl)) ?_
  refine held_free 12 (.bool ld) rfl (by kernel_rfl) (by kernel_rfl) (by kernel_rfl) (by kernel_rfl) B0 (fun W b => ex_load 4 (.tmp 19) (by kernel_rfl) ⟨b0, 5, none⟩ (by kernel_rfl) (by kernel_rfl) ((HX1.out.below b HX1.out.lt).cell 5)) ?_
  refine held_free 15 (.pointer (some ⟨b0, 0, none⟩)) rfl (by kernel_rfl) (by kernel_rfl) (by kernel_rfl) (by kernel_rfl) B0 (fun _ _ => ex_field (v := .pointer (some ⟨b0, 0, none⟩)) 26 (.tmp 1) 0 (by kernel_rfl) (by kernel_rfl) (by kernel_rfl)) ?_
  refine held_free 16 (.bool fin) rfl (by kernel_rfl) (by kernel_rfl) (by kernel_rfl) (by kernel_rfl) B0 (fun W b => ex_load 4 (.tmp 23) (by kernel_rfl) ⟨b0, 0, none⟩ (by kernel_rfl) (by kernel_rfl) ((HX1.out.below b HX1.out.lt).cell 0)) ?_
  refine held_call 2 rfl (by kernel_rfl) (by kernel_rfl) (by kernel_rfl) (bitR_b true 1 _) (fun w' h => bel_in B0 h) ?_
  intro W1 hW1
  have B1 := bel_in B0 hW1
  clear hW1 B0
  refine held_call 5 rfl (by kernel_rfl) (by kernel_rfl) (by kernel_rfl) (bitR_b la 2 _) (fun w' h => bel_in B1 h) ?_
  intro W2 hW2
  have B2 := bel_in B1 hW2
  clear hW2 B1
  refine held_free 6 (.int .u64 ((bitN true 1 + bitN la 2 : Nat) : Int)) rfl (by kernel_rfl) (by kernel_rfl) (by kernel_rfl) (by kernel_rfl) B2 (fun _ _ => ex_add64 22 22 (.tmp 10) (.tmp 13) (by kernel_rfl) (bitN true 1) (bitN la 2) (by kernel_rfl) (by kernel_rfl) (by kernel_rfl) (by have := bitN_le true 1; have := bitN_le la 2; have := bitN_le false 4; have := bitN_le ld 8; have := bitN_le fin 16; omega)) ?_
  refine held_call 9 rfl (by kernel_rfl) (by kernel_rfl) (by kernel_rfl) (bitR_b false 4 _) (fun w' h => bel_in B2 h) ?_
  intro W3 hW3
  have B3 := bel_in B2 hW3
  clear hW3 B2
  refine held_free 10 (.int .u64 ((bitN true 1 + bitN la 2 + bitN false 4 : Nat) : Int)) rfl (by kernel_rfl) (by kernel_rfl) (by kernel_rfl) (by kernel_rfl) B3 (fun _ _ => ex_add64 22 22 (.tmp 14) (.tmp 17) (by kernel_rfl) (bitN true 1 + bitN la 2) (bitN false 4) (by kernel_rfl) (by kernel_rfl) (by kernel_rfl) (by have := bitN_le true 1; have := bitN_le la 2; have := bitN_le false 4; have := bitN_le ld 8; have := bitN_le fin 16; omega)) ?_
  refine held_call 13 rfl (by kernel_rfl) (by kernel_rfl) (by kernel_rfl) (bitR_b ld 8 _) (fun w' h => bel_in B3 h) ?_
  intro W4 hW4
  have B4 := bel_in B3 hW4
  clear hW4 B3
  refine held_free 14 (.int .u64 ((bitN true 1 + bitN la 2 + bitN false 4 + bitN ld 8 : Nat) : Int)) rfl (by kernel_rfl) (by kernel_rfl) (by kernel_rfl) (by kernel_rfl) B4 (fun _ _ => ex_add64 22 22 (.tmp 18) (.tmp 21) (by kernel_rfl) (bitN true 1 + bitN la 2 + bitN false 4) (bitN ld 8) (by kernel_rfl) (by kernel_rfl) (by kernel_rfl) (by have := bitN_le true 1; have := bitN_le la 2; have := bitN_le false 4; have := bitN_le ld 8; have := bitN_le fin 16; omega)) ?_
  refine held_call 17 rfl (by kernel_rfl) (by kernel_rfl) (by kernel_rfl) (bitR_b fin 16 _) (fun w' h => bel_in B4 h) ?_
  intro W5 hW5
  have B5 := bel_in B4 hW5
  clear hW5 B4
  refine held_free 18 (.int .u64 ((bitN true 1 + bitN la 2 + bitN false 4 + bitN ld 8 + bitN fin 16 : Nat) : Int)) rfl (by kernel_rfl) (by kernel_rfl) (by kernel_rfl) (by kernel_rfl) B5 (fun _ _ => ex_add64 22 22 (.tmp 22) (.tmp 25) (by kernel_rfl) (bitN true 1 + bitN la 2 + bitN false 4 + bitN ld 8) (bitN fin 16) (by kernel_rfl) (by kernel_rfl) (by kernel_rfl) (by have := bitN_le true 1; have := bitN_le la 2; have := bitN_le false 4; have := bitN_le ld 8; have := bitN_le fin 16; omega)) ?_
  refine held_call 19 rfl (by kernel_rfl) (by kernel_rfl) (by kernel_rfl) (Laid_t (bitN true 1 + bitN la 2 + bitN false 4 + bitN ld 8 + bitN fin 16) (1) t1 _ HN1.out.1 HN1.out.2.1 HN1.out.2.2 HT1.out) (fun w' h => bel_in B5 h) ?_
  intro W6 hW6
  have B6 := bel_in B5 hW6
  clear hW6 B5
  refine held_free 20 (.string T1) rfl (by kernel_rfl) (by kernel_rfl) (by kernel_rfl) (by kernel_rfl) B6 (fun _ _ => ex_strcat 9 9 (.const (.string ⟨#[32]⟩)) (.tmp 27) (by kernel_rfl) (⟨#[32]⟩) (t1) T1 (by kernel_rfl) (by kernel_rfl) HC1.out.1 HC1.out.2.1 HC1.out.2.2) ?_
  refine held_free 21 (.string T1) rfl (by kernel_rfl) (by kernel_rfl) (by kernel_rfl) (by kernel_rfl) B6 (fun _ _ => by kernel_rfl) ?_
  refine held_end (by kernel_rfl) ?_
  obtain ⟨V1, hV⟩ : ∃ V, V = W6 := ⟨_, rfl⟩
  rw [← hV] at B6 ⊢
  clear hV
  have HX2 := Lib.hid (HX1.out.below B6 HX1.out.lt)
  have HB2 := Lib.hid (HB1.out.trans (B6.mono HB1.out.size))
  clear B6 HX1 HB1
  have c1 := HX2.out.cell 1
  have c4 := HX2.out.cell 4
  have c9 := HX2.out.cell 9
  simp only [List.getElem?_toArray, List.getElem?_cons_zero, List.getElem?_cons_succ] at c1 c4 c9
  go_upto_region 5 with fail
  clear c1 c4 c9
  have B0 : Below V1.heap.size V1 V1.drew := (Below.refl _ V1).drew
  refine held_start (fun W => Below V1.heap.size V1 W) (by kernel_rfl) (n := 9) rfl ?_
  obtain ⟨W0, hW0⟩ : ∃ W0, W0 = V1.drew := ⟨_, rfl⟩
  rw [← hW0] at B0 ⊢
  clear hW0
  refine held_free 0 (.string T1) rfl (by kernel_rfl) (by kernel_rfl) (by kernel_rfl) (by kernel_rfl) B0 (fun _ _ => by kernel_rfl) ?_
  refine held_free 1 (.pointer (some ⟨b0, 3, none⟩)) rfl (by kernel_rfl) (by kernel_rfl) (by kernel_rfl) (by kernel_rfl) B0 (fun _ _ => ex_field (v := .pointer (some ⟨b0, 0, none⟩)) 26 (.tmp 1) 3 (by kernel_rfl) (by kernel_rfl) (by kernel_rfl)) ?_
  refine held_free 2 (.int .u64 (ack : Int)) rfl (by kernel_rfl) (by kernel_rfl) (by kernel_rfl) (by kernel_rfl) B0 (fun W b => ex_load 22 (.tmp 32) (by kernel_rfl) ⟨b0, 3, none⟩ (by kernel_rfl) (by kernel_rfl) ((HX2.out.below b HX2.out.lt).cell 3)) ?_
  refine held_free 3 (.pointer (some ⟨b0, 2, none⟩)) rfl (by kernel_rfl) (by kernel_rfl) (by kernel_rfl) (by kernel_rfl) B0 (fun _ _ => ex_field (v := .pointer (some ⟨b0, 0, none⟩)) 26 (.tmp 1) 2 (by kernel_rfl) (by kernel_rfl) (by kernel_rfl)) ?_
  refine held_free 4 (.bool la) rfl (by kernel_rfl) (by kernel_rfl) (by kernel_rfl) (by kernel_rfl) B0 (fun W b => ex_load 4 (.tmp 34) (by kernel_rfl) ⟨b0, 2, none⟩ (by kernel_rfl) (by kernel_rfl) ((HX2.out.below b HX2.out.lt).cell 2)) ?_
  refine held_call 5 rfl (by kernel_rfl) (by kernel_rfl) (by kernel_rfl) (wideR_b la _) (fun w' h => bel_in B0 h) ?_
  intro W1 hW1
  have B1 := bel_in B0 hW1
  clear hW1 B0
  refine held_call 6 rfl (by kernel_rfl) (by kernel_rfl) (by kernel_rfl) (Laid_t (ack) (wA true la) t2 _ HN2.out.1 HN2.out.2.1 HN2.out.2.2 HT2.out) (fun w' h => bel_in B1 h) ?_
  intro W2 hW2
  have B2 := bel_in B1 hW2
  clear hW2 B1
  refine held_free 7 (.string T2) rfl (by kernel_rfl) (by kernel_rfl) (by kernel_rfl) (by kernel_rfl) B2 (fun _ _ => ex_strcat 9 9 (.tmp 31) (.tmp 37) (by kernel_rfl) (T1) (t2) T2 (by kernel_rfl) (by kernel_rfl) HC2.out.1 HC2.out.2.1 HC2.out.2.2) ?_
  refine held_free 8 (.string T2) rfl (by kernel_rfl) (by kernel_rfl) (by kernel_rfl) (by kernel_rfl) B2 (fun _ _ => by kernel_rfl) ?_
  refine held_end (by kernel_rfl) ?_
  obtain ⟨V2, hV⟩ : ∃ V, V = W2 := ⟨_, rfl⟩
  rw [← hV] at B2 ⊢
  clear hV
  have HX3 := Lib.hid (HX2.out.below B2 HX2.out.lt)
  have HB3 := Lib.hid (HB2.out.trans (B2.mono HB2.out.size))
  clear B2 HX2 HB2
  have c1 := HX3.out.cell 1
  have c4 := HX3.out.cell 4
  have c9 := HX3.out.cell 9
  simp only [List.getElem?_toArray, List.getElem?_cons_zero, List.getElem?_cons_succ] at c1 c4 c9
  go_wp2_with fail
  go_ret2
  exact ⟨by rw [HV2.out]; rfl, HB3.out⟩
set_option maxHeartbeats 2000000 in
set_option maxRecDepth 100000 in
theorem encR_ftf (fin : Bool) (la : Bool) (ack : Nat) (ld : Bool) (dsn : Nat) (ssn : Nat) (len : Nat) (sum : Nat) (hx : Ds.Ok (⟨fin, false, la, ack, true, ld, dsn, ssn, (len : Int), false, sum⟩ : Ds)) (hm : Ds.May (⟨fin, false, la, ack, true, ld, dsn, ssn, (len : Int), false, sum⟩ : Ds)) (w : World) :
    Calls Try.prog 11 #[.agg (dsv (⟨fin, false, la, ack, true, ld, dsn, ssn, (len : Int), false, sum⟩ : Ds))] w fun e w' => e = .returned (encV (⟨fin, false, la, ack, true, ld, dsn, ssn, (len : Int), false, sum⟩ : Ds)) ∧ Below w.heap.size w w' := by
  have HX0 := Lib.hid hx
  have HM := Lib.hid hm
  obtain ⟨V, hV⟩ : ∃ V, V = encV (⟨fin, false, la, ack, true, ld, dsn, ssn, (len : Int), false, sum⟩ : Ds) := ⟨_, rfl⟩
  rw [← hV]
  rw [encV_t _ hm] at hV
  have HVV := Lib.hid hV
  clear hx hm hV
  have hok := HX0.out
  have hm0 := HM.out
  have HR := Lib.hid (show ssn ≤ 4294967295 ∧ len ≤ 65535 ∧ sum ≤ 65535 from ⟨hok.ssn, by have q := hm0.2.2.2.2.2; simp only [] at q; omega, hok.sum⟩)
  have z0 : (⟨#[32]⟩ : ByteArray).size ≤ 1 := by decide
  have hm1' : 1 ≤ 1 ∧ 1 ≤ 1 := by omega
  obtain ⟨t1, ht1⟩ : ∃ t, txt (be 1 (Ds.bits (⟨fin, false, la, ack, true, ld, dsn, ssn, (len : Int), false, sum⟩ : Ds))) = t := ⟨_, rfl⟩
  have y1 : t1.size ≤ 1 := by rw [← ht1, txt_small]; omega
  obtain ⟨T1, hT1⟩ : ∃ T, T = (⟨#[32]⟩ : ByteArray) ++ t1 := ⟨_, rfl⟩
  have z1 : T1.size ≤ 2 := by rw [hT1, ByteArray.size_append]; omega
  have HN1 := Lib.hid (show (Ds.bits (⟨fin, false, la, ack, true, ld, dsn, ssn, (len : Int), false, sum⟩ : Ds)) ≤ 18446744073709551615 ∧ 1 ≤ 1 ∧ 1 ≤ 8 from ⟨by have := Ds.bits_lt (⟨fin, false, la, ack, true, ld, dsn, ssn, (len : Int), false, sum⟩ : Ds); omega, hm1'.1, by omega⟩)
  have HT1 := Lib.hid ht1
  have HC1 := Lib.hid (show ((⟨#[32]⟩ : ByteArray).size : Int) ≤ 8388608 ∧ (t1.size : Int) ≤ 8388608 ∧ T1 = (⟨#[32]⟩ : ByteArray) ++ t1 from ⟨by omega, by omega, hT1⟩)
  have hm3' : 1 ≤ (wA true ld) ∧ (wA true ld) ≤ 8 := by cases ld <;> decide
  obtain ⟨t3, ht3⟩ : ∃ t, txt (be (wA true ld) dsn) = t := ⟨_, rfl⟩
  have y3 : t3.size ≤ 8 := by rw [← ht3, txt_small]; omega
  obtain ⟨T3, hT3⟩ : ∃ T, T = T1 ++ t3 := ⟨_, rfl⟩
  have z3 : T3.size ≤ 10 := by rw [hT3, ByteArray.size_append]; omega
  have HN3 := Lib.hid (show dsn ≤ 18446744073709551615 ∧ 1 ≤ (wA true ld) ∧ (wA true ld) ≤ 8 from ⟨hok.dsn, hm3'.1, by omega⟩)
  have HT3 := Lib.hid ht3
  have HC3 := Lib.hid (show (T1.size : Int) ≤ 8388608 ∧ (t3.size : Int) ≤ 8388608 ∧ T3 = T1 ++ t3 from ⟨by omega, by omega, hT3⟩)
  have hm4' : 1 ≤ 4 ∧ 4 ≤ 4 := by omega
  obtain ⟨t4, ht4⟩ : ∃ t, txt (be 4 ssn) = t := ⟨_, rfl⟩
  have y4 : t4.size ≤ 4 := by rw [← ht4, txt_small]; omega
  obtain ⟨T4, hT4⟩ : ∃ T, T = T3 ++ t4 := ⟨_, rfl⟩
  have z4 : T4.size ≤ 14 := by rw [hT4, ByteArray.size_append]; omega
  have HN4 := Lib.hid (show ssn ≤ 18446744073709551615 ∧ 1 ≤ 4 ∧ 4 ≤ 8 from ⟨by have := hok.ssn; simp only [] at this; omega, hm4'.1, by omega⟩)
  have HT4 := Lib.hid ht4
  have HC4 := Lib.hid (show (T3.size : Int) ≤ 8388608 ∧ (t4.size : Int) ≤ 8388608 ∧ T4 = T3 ++ t4 from ⟨by omega, by omega, hT4⟩)
  have hm5' : 1 ≤ 2 ∧ 2 ≤ 2 := by omega
  obtain ⟨t5, ht5⟩ : ∃ t, txt (be 2 len) = t := ⟨_, rfl⟩
  have y5 : t5.size ≤ 2 := by rw [← ht5, txt_small]; omega
  obtain ⟨T5, hT5⟩ : ∃ T, T = T4 ++ t5 := ⟨_, rfl⟩
  have z5 : T5.size ≤ 16 := by rw [hT5, ByteArray.size_append]; omega
  have HN5 := Lib.hid (show len ≤ 18446744073709551615 ∧ 1 ≤ 2 ∧ 2 ≤ 8 from ⟨by have := HR.out; omega, hm5'.1, by omega⟩)
  have HT5 := Lib.hid ht5
  have HC5 := Lib.hid (show (T4.size : Int) ≤ 8388608 ∧ (t5.size : Int) ≤ 8388608 ∧ T5 = T4 ++ t5 from ⟨by omega, by omega, hT5⟩)
  have hTb : T5 = txt (Ds.body (⟨fin, false, la, ack, true, ld, dsn, ssn, (len : Int), false, sum⟩ : Ds)) := by
    rw [hT5, hT4, hT3, hT1, ← ht1, ← ht3, ← ht4, ← ht5, show (⟨#[32]⟩ : ByteArray) = txt [32] from rfl]
    simp only [txt_app]
    simp [Ds.body, Ds.rest, w4, w2, wA, be]
  have HV2 := Lib.hid (show V = .tuple #[.string T5, .int .i64 0] by rw [HVV.out, hTb])
  obtain ⟨b0, hb0⟩ : ∃ b, b = w.heap.size := ⟨_, rfl⟩
  have hx0 : Blk (w.alloc (.cells (dsv (⟨fin, false, la, ack, true, ld, dsn, ssn, (len : Int), false, sum⟩ : Ds)) 26)) b0 26 (dsv (⟨fin, false, la, ack, true, ld, dsn, ssn, (len : Int), false, sum⟩ : Ds)) := by rw [hb0]; exact Blk.new _ _ _
  have hlt : b0 < (w.alloc (.cells (dsv (⟨fin, false, la, ack, true, ld, dsn, ssn, (len : Int), false, sum⟩ : Ds)) 26)).heap.size := hx0.lt
  have HB := Lib.hid ((Below.refl _ w).alloc (Nat.le_refl _) (.cells (dsv (⟨fin, false, la, ack, true, ld, dsn, ssn, (len : Int), false, sum⟩ : Ds)) 26))
  have HXW := Lib.hid hx0
  have HBE := Lib.hid hb0
  clear hok hm0 hx0 hlt hb0 z0 hTb hm1' ht1 y1 hT1 z1 hm3' ht3 y3 hT3 z3 hm4' ht4 y4 hT4 z4 hm5' ht5 y5 hT5 z5
  go_enter Try.func11, Try.ntmps11
  go_wp2_with (refine wpList_load_row rfl 26 _ rfl w.heap.size rfl 26 (dsv (⟨fin, false, la, ack, true, ld, dsn, ssn, (len : Int), false, sum⟩ : Ds)) (0, 0) _ ?_ Try.underlying26 rfl ds_size ?_; have q := HXW.out; rw [HBE.out] at q; exact q)
  refine (MayR_any (⟨fin, false, la, ack, true, ld, dsn, ssn, (len : Int), false, sum⟩ : Ds) _).mono ?_
  rintro e V0 ⟨rfl, b⟩
  rw [decide_eq_true HM.out]
  have HX1 := Lib.hid (HXW.out.below b HXW.out.lt)
  have HB1 := Lib.hid (HB.out.trans (b.mono HB.out.size))
  clear b HXW HB
  go_upto_region 3 with fail
  rw [← HBE.out]
  have B0 : Below V0.heap.size V0 V0.drew := (Below.refl _ V0).drew
  refine held_start (fun W => Below V0.heap.size V0 W) (by kernel_rfl) (n := 22) rfl ?_
  obtain ⟨W0, hW0⟩ : ∃ W0, W0 = V0.drew := ⟨_, rfl⟩
  rw [← hW0] at B0 ⊢
  clear hW0
  refine held_free 0 (.pointer (some ⟨b0, 1, none⟩)) rfl (by kernel_rfl) (by kernel_rfl) (by kernel_rfl) (by kernel_rfl) B0 (fun _ _ => ex_field (v := .pointer (some ⟨b0, 0, none⟩)) 26 (.tmp 1) 1 (by kernel_rfl) (by kernel_rfl) (by kernel_rfl)) ?_
  refine held_free 1 (.bool false) rfl (by kernel_rfl) (by kernel_rfl) (by kernel_rfl) (by kernel_rfl) B0 (fun W b => ex_load 4 (.tmp 8) (by kernel_rfl) ⟨b0, 1, none⟩ (by kernel_rfl) (by kernel_rfl) ((HX1.out.below b HX1.out.lt).cell 1)) ?_
  refine held_free 3 (.pointer (some ⟨b0, 2, none⟩)) rfl (by kernel_rfl) (by kernel_rfl) (by kernel_rfl) (by kernel_rfl) B0 (fun _ _ => ex_field (v := .pointer (some ⟨b0, 0, none⟩)) 26 (.tmp 1) 2 (by kernel_rfl) (by kernel_rfl) (by kernel_rfl)) ?_
  refine held_free 4 (.bool la) rfl (by kernel_rfl) (by kernel_rfl) (by kernel_rfl) (by kernel_rfl) B0 (fun W b => ex_load 4 (.tmp 11) (by kernel_rfl) ⟨b0, 2, none⟩ (by kernel_rfl) (by kernel_rfl) ((HX1.out.below b HX1.out.lt).cell 2)) ?_
  refine held_free 7 (.pointer (some ⟨b0, 4, none⟩)) rfl (by kernel_rfl) (by kernel_rfl) (by kernel_rfl) (by kernel_rfl) B0 (fun _ _ => ex_field (v := .pointer (some ⟨b0, 0, none⟩)) 26 (.tmp 1) 4 (by kernel_rfl) (by kernel_rfl) (by kernel_rfl)) ?_
  refine held_free 8 (.bool true) rfl (by kernel_rfl) (by kernel_rfl) (by kernel_rfl) (by kernel_rfl) B0 (fun W b => ex_load 4 (.tmp 15) (by kernel_rfl) ⟨b0, 4, none⟩ (by kernel_rfl) (by kernel_rfl) ((HX1.out.below b HX1.out.lt).cell 4)) ?_
  refine held_free 11 (.pointer (some ⟨b0, 5, none⟩)) rfl (by kernel_rfl) (by kernel_rfl) (by kernel_rfl) (by kernel_rfl) B0 (fun _ _ => ex_field (v := .pointer (some ⟨b0, 0, none⟩)) 26 (.tmp 1) 5 (by kernel_rfl) (by kernel_rfl) (by kernel_rfl)) ?_
  refine held_free 12 (.bool ld) rfl (by kernel_rfl) (by kernel_rfl) (by kernel_rfl) (by kernel_rfl) B0 (fun W b => ex_load 4 (.tmp 19) (by kernel_rfl) ⟨b0, 5, none⟩ (by kernel_rfl) (by kernel_rfl) ((HX1.out.below b HX1.out.lt).cell 5)) ?_
  refine held_free 15 (.pointer (some ⟨b0, 0, none⟩)) rfl (by kernel_rfl) (by kernel_rfl) (by kernel_rfl) (by kernel_rfl) B0 (fun _ _ => ex_field (v := .pointer (some ⟨b0, 0, none⟩)) 26 (.tmp 1) 0 (by kernel_rfl) (by kernel_rfl) (by kernel_rfl)) ?_
  refine held_free 16 (.bool fin) rfl (by kernel_rfl) (by kernel_rfl) (by kernel_rfl) (by kernel_rfl) B0 (fun W b => ex_load 4 (.tmp 23) (by kernel_rfl) ⟨b0, 0, none⟩ (by kernel_rfl) (by kernel_rfl) ((HX1.out.below b HX1.out.lt).cell 0)) ?_
  refine held_call 2 rfl (by kernel_rfl) (by kernel_rfl) (by kernel_rfl) (bitR_b false 1 _) (fun w' h => bel_in B0 h) ?_
  intro W1 hW1
  have B1 := bel_in B0 hW1
  clear hW1 B0
  refine held_call 5 rfl (by kernel_rfl) (by kernel_rfl) (by kernel_rfl) (bitR_b la 2 _) (fun w' h => bel_in B1 h) ?_
  intro W2 hW2
  have B2 := bel_in B1 hW2
  clear hW2 B1
  refine held_free 6 (.int .u64 ((bitN false 1 + bitN la 2 : Nat) : Int)) rfl (by kernel_rfl) (by kernel_rfl) (by kernel_rfl) (by kernel_rfl) B2 (fun _ _ => ex_add64 22 22 (.tmp 10) (.tmp 13) (by kernel_rfl) (bitN false 1) (bitN la 2) (by kernel_rfl) (by kernel_rfl) (by kernel_rfl) (by have := bitN_le false 1; have := bitN_le la 2; have := bitN_le true 4; have := bitN_le ld 8; have := bitN_le fin 16; omega)) ?_
  refine held_call 9 rfl (by kernel_rfl) (by kernel_rfl) (by kernel_rfl) (bitR_b true 4 _) (fun w' h => bel_in B2 h) ?_
  intro W3 hW3
  have B3 := bel_in B2 hW3
  clear hW3 B2
  refine held_free 10 (.int .u64 ((bitN false 1 + bitN la 2 + bitN true 4 : Nat) : Int)) rfl (by kernel_rfl) (by kernel_rfl) (by kernel_rfl) (by kernel_rfl) B3 (fun _ _ => ex_add64 22 22 (.tmp 14) (.tmp 17) (by kernel_rfl) (bitN false 1 + bitN la 2) (bitN true 4) (by kernel_rfl) (by kernel_rfl) (by kernel_rfl) (by have := bitN_le false 1; have := bitN_le la 2; have := bitN_le true 4; have := bitN_le ld 8; have := bitN_le fin 16; omega)) ?_
  refine held_call 13 rfl (by kernel_rfl) (by kernel_rfl) (by kernel_rfl) (bitR_b ld 8 _) (fun w' h => bel_in B3 h) ?_
  intro W4 hW4
  have B4 := bel_in B3 hW4
  clear hW4 B3
  refine held_free 14 (.int .u64 ((bitN false 1 + bitN la 2 + bitN true 4 + bitN ld 8 : Nat) : Int)) rfl (by kernel_rfl) (by kernel_rfl) (by kernel_rfl) (by kernel_rfl) B4 (fun _ _ => ex_add64 22 22 (.tmp 18) (.tmp 21) (by kernel_rfl) (bitN false 1 + bitN la 2 + bitN true 4) (bitN ld 8) (by kernel_rfl) (by kernel_rfl) (by kernel_rfl) (by have := bitN_le false 1; have := bitN_le la 2; have := bitN_le true 4; have := bitN_le ld 8; have := bitN_le fin 16; omega)) ?_
  refine held_call 17 rfl (by kernel_rfl) (by kernel_rfl) (by kernel_rfl) (bitR_b fin 16 _) (fun w' h => bel_in B4 h) ?_
  intro W5 hW5
  have B5 := bel_in B4 hW5
  clear hW5 B4
  refine held_free 18 (.int .u64 ((bitN false 1 + bitN la 2 + bitN true 4 + bitN ld 8 + bitN fin 16 : Nat) : Int)) rfl (by kernel_rfl) (by kernel_rfl) (by kernel_rfl) (by kernel_rfl) B5 (fun _ _ => ex_add64 22 22 (.tmp 22) (.tmp 25) (by kernel_rfl) (bitN false 1 + bitN la 2 + bitN true 4 + bitN ld 8) (bitN fin 16) (by kernel_rfl) (by kernel_rfl) (by kernel_rfl) (by have := bitN_le false 1; have := bitN_le la 2; have := bitN_le true 4; have := bitN_le ld 8; have := bitN_le fin 16; omega)) ?_
  refine held_call 19 rfl (by kernel_rfl) (by kernel_rfl) (by kernel_rfl) (Laid_t (bitN false 1 + bitN la 2 + bitN true 4 + bitN ld 8 + bitN fin 16) (1) t1 _ HN1.out.1 HN1.out.2.1 HN1.out.2.2 HT1.out) (fun w' h => bel_in B5 h) ?_
  intro W6 hW6
  have B6 := bel_in B5 hW6
  clear hW6 B5
  refine held_free 20 (.string T1) rfl (by kernel_rfl) (by kernel_rfl) (by kernel_rfl) (by kernel_rfl) B6 (fun _ _ => ex_strcat 9 9 (.const (.string ⟨#[32]⟩)) (.tmp 27) (by kernel_rfl) (⟨#[32]⟩) (t1) T1 (by kernel_rfl) (by kernel_rfl) HC1.out.1 HC1.out.2.1 HC1.out.2.2) ?_
  refine held_free 21 (.string T1) rfl (by kernel_rfl) (by kernel_rfl) (by kernel_rfl) (by kernel_rfl) B6 (fun _ _ => by kernel_rfl) ?_
  refine held_end (by kernel_rfl) ?_
  obtain ⟨V1, hV⟩ : ∃ V, V = W6 := ⟨_, rfl⟩
  rw [← hV] at B6 ⊢
  clear hV
  have HX2 := Lib.hid (HX1.out.below B6 HX1.out.lt)
  have HB2 := Lib.hid (HB1.out.trans (B6.mono HB1.out.size))
  clear B6 HX1 HB1
  have c1 := HX2.out.cell 1
  have c4 := HX2.out.cell 4
  have c9 := HX2.out.cell 9
  simp only [List.getElem?_toArray, List.getElem?_cons_zero, List.getElem?_cons_succ] at c1 c4 c9
  go_upto_region 7 with fail
  clear c1 c4 c9
  have B0 : Below V1.heap.size V1 V1.drew := (Below.refl _ V1).drew
  refine held_start (fun W => Below V1.heap.size V1 W) (by kernel_rfl) (n := 19) rfl ?_
  obtain ⟨W0, hW0⟩ : ∃ W0, W0 = V1.drew := ⟨_, rfl⟩
  rw [← hW0] at B0 ⊢
  clear hW0
  refine held_free 0 (.string T1) rfl (by kernel_rfl) (by kernel_rfl) (by kernel_rfl) (by kernel_rfl) B0 (fun _ _ => by kernel_rfl) ?_
  refine held_free 1 (.pointer (some ⟨b0, 6, none⟩)) rfl (by kernel_rfl) (by kernel_rfl) (by kernel_rfl) (by kernel_rfl) B0 (fun _ _ => ex_field (v := .pointer (some ⟨b0, 0, none⟩)) 26 (.tmp 1) 6 (by kernel_rfl) (by kernel_rfl) (by kernel_rfl)) ?_
  refine held_free 2 (.int .u64 (dsn : Int)) rfl (by kernel_rfl) (by kernel_rfl) (by kernel_rfl) (by kernel_rfl) B0 (fun W b => ex_load 22 (.tmp 42) (by kernel_rfl) ⟨b0, 6, none⟩ (by kernel_rfl) (by kernel_rfl) ((HX2.out.below b HX2.out.lt).cell 6)) ?_
  refine held_free 3 (.pointer (some ⟨b0, 5, none⟩)) rfl (by kernel_rfl) (by kernel_rfl) (by kernel_rfl) (by kernel_rfl) B0 (fun _ _ => ex_field (v := .pointer (some ⟨b0, 0, none⟩)) 26 (.tmp 1) 5 (by kernel_rfl) (by kernel_rfl) (by kernel_rfl)) ?_
  refine held_free 4 (.bool ld) rfl (by kernel_rfl) (by kernel_rfl) (by kernel_rfl) (by kernel_rfl) B0 (fun W b => ex_load 4 (.tmp 44) (by kernel_rfl) ⟨b0, 5, none⟩ (by kernel_rfl) (by kernel_rfl) ((HX2.out.below b HX2.out.lt).cell 5)) ?_
  refine held_free 8 (.pointer (some ⟨b0, 7, none⟩)) rfl (by kernel_rfl) (by kernel_rfl) (by kernel_rfl) (by kernel_rfl) B0 (fun _ _ => ex_field (v := .pointer (some ⟨b0, 0, none⟩)) 26 (.tmp 1) 7 (by kernel_rfl) (by kernel_rfl) (by kernel_rfl)) ?_
  refine held_free 9 (.int .u32 (ssn : Int)) rfl (by kernel_rfl) (by kernel_rfl) (by kernel_rfl) (by kernel_rfl) B0 (fun W b => ex_load 23 (.tmp 49) (by kernel_rfl) ⟨b0, 7, none⟩ (by kernel_rfl) (by kernel_rfl) ((HX2.out.below b HX2.out.lt).cell 7)) ?_
  refine held_free 10 (.int .u64 (ssn : Int)) rfl (by kernel_rfl) (by kernel_rfl) (by kernel_rfl) (by kernel_rfl) B0 (fun W _ => ex_convert_to (v := .int .u32 (ssn : Int)) 23 22 (.tmp 50) (by kernel_rfl) (by kernel_rfl) (conv_w _ _ .u32 .u64 (ssn : Int) (ssn : Int) (by kernel_rfl) (by kernel_rfl) (by kernel_rfl) (by rw [IntKind.wrap_u64]; have := HR.out; omega) W)) ?_
  refine held_free 13 (.pointer (some ⟨b0, 8, none⟩)) rfl (by kernel_rfl) (by kernel_rfl) (by kernel_rfl) (by kernel_rfl) B0 (fun _ _ => ex_field (v := .pointer (some ⟨b0, 0, none⟩)) 26 (.tmp 1) 8 (by kernel_rfl) (by kernel_rfl) (by kernel_rfl)) ?_
  refine held_free 14 (.int .i64 (len : Int)) rfl (by kernel_rfl) (by kernel_rfl) (by kernel_rfl) (by kernel_rfl) B0 (fun W b => ex_load 3 (.tmp 54) (by kernel_rfl) ⟨b0, 8, none⟩ (by kernel_rfl) (by kernel_rfl) ((HX2.out.below b HX2.out.lt).cell 8)) ?_
  refine held_free 15 (.int .u64 (len : Int)) rfl (by kernel_rfl) (by kernel_rfl) (by kernel_rfl) (by kernel_rfl) B0 (fun W _ => ex_convert_to (v := .int .i64 (len : Int)) 3 22 (.tmp 55) (by kernel_rfl) (by kernel_rfl) (conv_w _ _ .i64 .u64 (len : Int) (len : Int) (by kernel_rfl) (by kernel_rfl) (by kernel_rfl) (by rw [IntKind.wrap_u64]; have := HR.out; omega) W)) ?_
  refine held_call 5 rfl (by kernel_rfl) (by kernel_rfl) (by kernel_rfl) (wideR_b ld _) (fun w' h => bel_in B0 h) ?_
  intro W1 hW1
  have B1 := bel_in B0 hW1
  clear hW1 B0
  refine held_call 6 rfl (by kernel_rfl) (by kernel_rfl) (by kernel_rfl) (Laid_t (dsn) (wA true ld) t3 _ HN3.out.1 HN3.out.2.1 HN3.out.2.2 HT3.out) (fun w' h => bel_in B1 h) ?_
  intro W2 hW2
  have B2 := bel_in B1 hW2
  clear hW2 B1
  refine held_free 7 (.string T3) rfl (by kernel_rfl) (by kernel_rfl) (by kernel_rfl) (by kernel_rfl) B2 (fun _ _ => ex_strcat 9 9 (.tmp 41) (.tmp 47) (by kernel_rfl) (T1) (t3) T3 (by kernel_rfl) (by kernel_rfl) HC3.out.1 HC3.out.2.1 HC3.out.2.2) ?_
  refine held_call 11 rfl (by kernel_rfl) (by kernel_rfl) (by kernel_rfl) (Laid_t (ssn) (4) t4 _ HN4.out.1 HN4.out.2.1 HN4.out.2.2 HT4.out) (fun w' h => bel_in B2 h) ?_
  intro W3 hW3
  have B3 := bel_in B2 hW3
  clear hW3 B2
  refine held_free 12 (.string T4) rfl (by kernel_rfl) (by kernel_rfl) (by kernel_rfl) (by kernel_rfl) B3 (fun _ _ => ex_strcat 9 9 (.tmp 48) (.tmp 52) (by kernel_rfl) (T3) (t4) T4 (by kernel_rfl) (by kernel_rfl) HC4.out.1 HC4.out.2.1 HC4.out.2.2) ?_
  refine held_call 16 rfl (by kernel_rfl) (by kernel_rfl) (by kernel_rfl) (Laid_t (len) (2) t5 _ HN5.out.1 HN5.out.2.1 HN5.out.2.2 HT5.out) (fun w' h => bel_in B3 h) ?_
  intro W4 hW4
  have B4 := bel_in B3 hW4
  clear hW4 B3
  refine held_free 17 (.string T5) rfl (by kernel_rfl) (by kernel_rfl) (by kernel_rfl) (by kernel_rfl) B4 (fun _ _ => ex_strcat 9 9 (.tmp 53) (.tmp 57) (by kernel_rfl) (T4) (t5) T5 (by kernel_rfl) (by kernel_rfl) HC5.out.1 HC5.out.2.1 HC5.out.2.2) ?_
  refine held_free 18 (.string T5) rfl (by kernel_rfl) (by kernel_rfl) (by kernel_rfl) (by kernel_rfl) B4 (fun _ _ => by kernel_rfl) ?_
  refine held_end (by kernel_rfl) ?_
  obtain ⟨V2, hV⟩ : ∃ V, V = W4 := ⟨_, rfl⟩
  rw [← hV] at B4 ⊢
  clear hV
  have HX3 := Lib.hid (HX2.out.below B4 HX2.out.lt)
  have HB3 := Lib.hid (HB2.out.trans (B4.mono HB2.out.size))
  clear B4 HX2 HB2
  have c1 := HX3.out.cell 1
  have c4 := HX3.out.cell 4
  have c9 := HX3.out.cell 9
  simp only [List.getElem?_toArray, List.getElem?_cons_zero, List.getElem?_cons_succ] at c1 c4 c9
  go_wp2_with fail
  go_ret2
  exact ⟨by rw [HV2.out]; rfl, HB3.out⟩
set_option maxHeartbeats 2000000 in
set_option maxRecDepth 100000 in
theorem encR_ftt (fin : Bool) (la : Bool) (ack : Nat) (ld : Bool) (dsn : Nat) (ssn : Nat) (len : Nat) (sum : Nat) (hx : Ds.Ok (⟨fin, false, la, ack, true, ld, dsn, ssn, (len : Int), true, sum⟩ : Ds)) (hm : Ds.May (⟨fin, false, la, ack, true, ld, dsn, ssn, (len : Int), true, sum⟩ : Ds)) (w : World) :
    Calls Try.prog 11 #[.agg (dsv (⟨fin, false, la, ack, true, ld, dsn, ssn, (len : Int), true, sum⟩ : Ds))] w fun e w' => e = .returned (encV (⟨fin, false, la, ack, true, ld, dsn, ssn, (len : Int), true, sum⟩ : Ds)) ∧ Below w.heap.size w w' := by
  have HX0 := Lib.hid hx
  have HM := Lib.hid hm
  obtain ⟨V, hV⟩ : ∃ V, V = encV (⟨fin, false, la, ack, true, ld, dsn, ssn, (len : Int), true, sum⟩ : Ds) := ⟨_, rfl⟩
  rw [← hV]
  rw [encV_t _ hm] at hV
  have HVV := Lib.hid hV
  clear hx hm hV
  have hok := HX0.out
  have hm0 := HM.out
  have HR := Lib.hid (show ssn ≤ 4294967295 ∧ len ≤ 65535 ∧ sum ≤ 65535 from ⟨hok.ssn, by have q := hm0.2.2.2.2.2; simp only [] at q; omega, hok.sum⟩)
  have z0 : (⟨#[32]⟩ : ByteArray).size ≤ 1 := by decide
  have hm1' : 1 ≤ 1 ∧ 1 ≤ 1 := by omega
  obtain ⟨t1, ht1⟩ : ∃ t, txt (be 1 (Ds.bits (⟨fin, false, la, ack, true, ld, dsn, ssn, (len : Int), true, sum⟩ : Ds))) = t := ⟨_, rfl⟩
  have y1 : t1.size ≤ 1 := by rw [← ht1, txt_small]; omega
  obtain ⟨T1, hT1⟩ : ∃ T, T = (⟨#[32]⟩ : ByteArray) ++ t1 := ⟨_, rfl⟩
  have z1 : T1.size ≤ 2 := by rw [hT1, ByteArray.size_append]; omega
  have HN1 := Lib.hid (show (Ds.bits (⟨fin, false, la, ack, true, ld, dsn, ssn, (len : Int), true, sum⟩ : Ds)) ≤ 18446744073709551615 ∧ 1 ≤ 1 ∧ 1 ≤ 8 from ⟨by have := Ds.bits_lt (⟨fin, false, la, ack, true, ld, dsn, ssn, (len : Int), true, sum⟩ : Ds); omega, hm1'.1, by omega⟩)
  have HT1 := Lib.hid ht1
  have HC1 := Lib.hid (show ((⟨#[32]⟩ : ByteArray).size : Int) ≤ 8388608 ∧ (t1.size : Int) ≤ 8388608 ∧ T1 = (⟨#[32]⟩ : ByteArray) ++ t1 from ⟨by omega, by omega, hT1⟩)
  have hm3' : 1 ≤ (wA true ld) ∧ (wA true ld) ≤ 8 := by cases ld <;> decide
  obtain ⟨t3, ht3⟩ : ∃ t, txt (be (wA true ld) dsn) = t := ⟨_, rfl⟩
  have y3 : t3.size ≤ 8 := by rw [← ht3, txt_small]; omega
  obtain ⟨T3, hT3⟩ : ∃ T, T = T1 ++ t3 := ⟨_, rfl⟩
  have z3 : T3.size ≤ 10 := by rw [hT3, ByteArray.size_append]; omega
  have HN3 := Lib.hid (show dsn ≤ 18446744073709551615 ∧ 1 ≤ (wA true ld) ∧ (wA true ld) ≤ 8 from ⟨hok.dsn, hm3'.1, by omega⟩)
  have HT3 := Lib.hid ht3
  have HC3 := Lib.hid (show (T1.size : Int) ≤ 8388608 ∧ (t3.size : Int) ≤ 8388608 ∧ T3 = T1 ++ t3 from ⟨by omega, by omega, hT3⟩)
  have hm4' : 1 ≤ 4 ∧ 4 ≤ 4 := by omega
  obtain ⟨t4, ht4⟩ : ∃ t, txt (be 4 ssn) = t := ⟨_, rfl⟩
  have y4 : t4.size ≤ 4 := by rw [← ht4, txt_small]; omega
  obtain ⟨T4, hT4⟩ : ∃ T, T = T3 ++ t4 := ⟨_, rfl⟩
  have z4 : T4.size ≤ 14 := by rw [hT4, ByteArray.size_append]; omega
  have HN4 := Lib.hid (show ssn ≤ 18446744073709551615 ∧ 1 ≤ 4 ∧ 4 ≤ 8 from ⟨by have := hok.ssn; simp only [] at this; omega, hm4'.1, by omega⟩)
  have HT4 := Lib.hid ht4
  have HC4 := Lib.hid (show (T3.size : Int) ≤ 8388608 ∧ (t4.size : Int) ≤ 8388608 ∧ T4 = T3 ++ t4 from ⟨by omega, by omega, hT4⟩)
  have hm5' : 1 ≤ 2 ∧ 2 ≤ 2 := by omega
  obtain ⟨t5, ht5⟩ : ∃ t, txt (be 2 len) = t := ⟨_, rfl⟩
  have y5 : t5.size ≤ 2 := by rw [← ht5, txt_small]; omega
  obtain ⟨T5, hT5⟩ : ∃ T, T = T4 ++ t5 := ⟨_, rfl⟩
  have z5 : T5.size ≤ 16 := by rw [hT5, ByteArray.size_append]; omega
  have HN5 := Lib.hid (show len ≤ 18446744073709551615 ∧ 1 ≤ 2 ∧ 2 ≤ 8 from ⟨by have := HR.out; omega, hm5'.1, by omega⟩)
  have HT5 := Lib.hid ht5
  have HC5 := Lib.hid (show (T4.size : Int) ≤ 8388608 ∧ (t5.size : Int) ≤ 8388608 ∧ T5 = T4 ++ t5 from ⟨by omega, by omega, hT5⟩)
  have hm6' : 1 ≤ 2 ∧ 2 ≤ 2 := by omega
  obtain ⟨t6, ht6⟩ : ∃ t, txt (be 2 sum) = t := ⟨_, rfl⟩
  have y6 : t6.size ≤ 2 := by rw [← ht6, txt_small]; omega
  obtain ⟨T6, hT6⟩ : ∃ T, T = T5 ++ t6 := ⟨_, rfl⟩
  have z6 : T6.size ≤ 18 := by rw [hT6, ByteArray.size_append]; omega
  have HN6 := Lib.hid (show sum ≤ 18446744073709551615 ∧ 1 ≤ 2 ∧ 2 ≤ 8 from ⟨by have := hok.sum; simp only [] at this; omega, hm6'.1, by omega⟩)
  have HT6 := Lib.hid ht6
  have HC6 := Lib.hid (show (T5.size : Int) ≤ 8388608 ∧ (t6.size : Int) ≤ 8388608 ∧ T6 = T5 ++ t6 from ⟨by omega, by omega, hT6⟩)
  have hTb : T6 = txt (Ds.body (⟨fin, false, la, ack, true, ld, dsn, ssn, (len : Int), true, sum⟩ : Ds)) := by
    rw [hT6, hT5, hT4, hT3, hT1, ← ht1, ← ht3, ← ht4, ← ht5, ← ht6, show (⟨#[32]⟩ : ByteArray) = txt [32] from rfl]
    simp only [txt_app]
    simp [Ds.body, Ds.rest, w4, w2, wA, be]
  have HV2 := Lib.hid (show V = .tuple #[.string T6, .int .i64 0] by rw [HVV.out, hTb])
  obtain ⟨b0, hb0⟩ : ∃ b, b = w.heap.size := ⟨_, rfl⟩
  have hx0 : Blk (w.alloc (.cells (dsv (⟨fin, false, la, ack, true, ld, dsn, ssn, (len : Int), true, sum⟩ : Ds)) 26)) b0 26 (dsv (⟨fin, false, la, ack, true, ld, dsn, ssn, (len : Int), true, sum⟩ : Ds)) := by rw [hb0]; exact Blk.new _ _ _
  have hlt : b0 < (w.alloc (.cells (dsv (⟨fin, false, la, ack, true, ld, dsn, ssn, (len : Int), true, sum⟩ : Ds)) 26)).heap.size := hx0.lt
  have HB := Lib.hid ((Below.refl _ w).alloc (Nat.le_refl _) (.cells (dsv (⟨fin, false, la, ack, true, ld, dsn, ssn, (len : Int), true, sum⟩ : Ds)) 26))
  have HXW := Lib.hid hx0
  have HBE := Lib.hid hb0
  clear hok hm0 hx0 hlt hb0 z0 hTb hm1' ht1 y1 hT1 z1 hm3' ht3 y3 hT3 z3 hm4' ht4 y4 hT4 z4 hm5' ht5 y5 hT5 z5 hm6' ht6 y6 hT6 z6
  go_enter Try.func11, Try.ntmps11
  go_wp2_with (refine wpList_load_row rfl 26 _ rfl w.heap.size rfl 26 (dsv (⟨fin, false, la, ack, true, ld, dsn, ssn, (len : Int), true, sum⟩ : Ds)) (0, 0) _ ?_ Try.underlying26 rfl ds_size ?_; have q := HXW.out; rw [HBE.out] at q; exact q)
  refine (MayR_any (⟨fin, false, la, ack, true, ld, dsn, ssn, (len : Int), true, sum⟩ : Ds) _).mono ?_
  rintro e V0 ⟨rfl, b⟩
  rw [decide_eq_true HM.out]
  have HX1 := Lib.hid (HXW.out.below b HXW.out.lt)
  have HB1 := Lib.hid (HB.out.trans (b.mono HB.out.size))
  clear b HXW HB
  go_upto_region 3 with fail
  rw [← HBE.out]
  have B0 : Below V0.heap.size V0 V0.drew := (Below.refl _ V0).drew
  refine held_start (fun W => Below V0.heap.size V0 W) (by kernel_rfl) (n := 22) rfl ?_
  obtain ⟨W0, hW0⟩ : ∃ W0, W0 = V0.drew := ⟨_, rfl⟩
  rw [← hW0] at B0 ⊢
  clear hW0
  refine held_free 0 (.pointer (some ⟨b0, 1, none⟩)) rfl (by kernel_rfl) (by kernel_rfl) (by kernel_rfl) (by kernel_rfl) B0 (fun _ _ => ex_field (v := .pointer (some ⟨b0, 0, none⟩)) 26 (.tmp 1) 1 (by kernel_rfl) (by kernel_rfl) (by kernel_rfl)) ?_
  refine held_free 1 (.bool false) rfl (by kernel_rfl) (by kernel_rfl) (by kernel_rfl) (by kernel_rfl) B0 (fun W b => ex_load 4 (.tmp 8) (by kernel_rfl) ⟨b0, 1, none⟩ (by kernel_rfl) (by kernel_rfl) ((HX1.out.below b HX1.out.lt).cell 1)) ?_
  refine held_free 3 (.pointer (some ⟨b0, 2, none⟩)) rfl (by kernel_rfl) (by kernel_rfl) (by kernel_rfl) (by kernel_rfl) B0 (fun _ _ => ex_field (v := .pointer (some ⟨b0, 0, none⟩)) 26 (.tmp 1) 2 (by kernel_rfl) (by kernel_rfl) (by kernel_rfl)) ?_
  refine held_free 4 (.bool la) rfl (by kernel_rfl) (by kernel_rfl) (by kernel_rfl) (by kernel_rfl) B0 (fun W b => ex_load 4 (.tmp 11) (by kernel_rfl) ⟨b0, 2, none⟩ (by kernel_rfl) (by kernel_rfl) ((HX1.out.below b HX1.out.lt).cell 2)) ?_
  refine held_free 7 (.pointer (some ⟨b0, 4, none⟩)) rfl (by kernel_rfl) (by kernel_rfl) (by kernel_rfl) (by kernel_rfl) B0 (fun _ _ => ex_field (v := .pointer (some ⟨b0, 0, none⟩)) 26 (.tmp 1) 4 (by kernel_rfl) (by kernel_rfl) (by kernel_rfl)) ?_
  refine held_free 8 (.bool true) rfl (by kernel_rfl) (by kernel_rfl) (by kernel_rfl) (by kernel_rfl) B0 (fun W b => ex_load 4 (.tmp 15) (by kernel_rfl) ⟨b0, 4, none⟩ (by kernel_rfl) (by kernel_rfl) ((HX1.out.below b HX1.out.lt).cell 4)) ?_
  refine held_free 11 (.pointer (some ⟨b0, 5, none⟩)) rfl (by kernel_rfl) (by kernel_rfl) (by kernel_rfl) (by kernel_rfl) B0 (fun _ _ => ex_field (v := .pointer (some ⟨b0, 0, none⟩)) 26 (.tmp 1) 5 (by kernel_rfl) (by kernel_rfl) (by kernel_rfl)) ?_
  refine held_free 12 (.bool ld) rfl (by kernel_rfl) (by kernel_rfl) (by kernel_rfl) (by kernel_rfl) B0 (fun W b => ex_load 4 (.tmp 19) (by kernel_rfl) ⟨b0, 5, none⟩ (by kernel_rfl) (by kernel_rfl) ((HX1.out.below b HX1.out.lt).cell 5)) ?_
  refine held_free 15 (.pointer (some ⟨b0, 0, none⟩)) rfl (by kernel_rfl) (by kernel_rfl) (by kernel_rfl) (by kernel_rfl) B0 (fun _ _ => ex_field (v := .pointer (some ⟨b0, 0, none⟩)) 26 (.tmp 1) 0 (by kernel_rfl) (by kernel_rfl) (by kernel_rfl)) ?_
  refine held_free 16 (.bool fin) rfl (by kernel_rfl) (by kernel_rfl) (by kernel_rfl) (by kernel_rfl) B0 (fun W b => ex_load 4 (.tmp 23) (by kernel_rfl) ⟨b0, 0, none⟩ (by kernel_rfl) (by kernel_rfl) ((HX1.out.below b HX1.out.lt).cell 0)) ?_
  refine held_call 2 rfl (by kernel_rfl) (by kernel_rfl) (by kernel_rfl) (bitR_b false 1 _) (fun w' h => bel_in B0 h) ?_
  intro W1 hW1
  have B1 := bel_in B0 hW1
  clear hW1 B0
  refine held_call 5 rfl (by kernel_rfl) (by kernel_rfl) (by kernel_rfl) (bitR_b la 2 _) (fun w' h => bel_in B1 h) ?_
  intro W2 hW2
  have B2 := bel_in B1 hW2
  clear hW2 B1
  refine held_free 6 (.int .u64 ((bitN false 1 + bitN la 2 : Nat) : Int)) rfl (by kernel_rfl) (by kernel_rfl) (by kernel_rfl) (by kernel_rfl) B2 (fun _ _ => ex_add64 22 22 (.tmp 10) (.tmp 13) (by kernel_rfl) (bitN false 1) (bitN la 2) (by kernel_rfl) (by kernel_rfl) (by kernel_rfl) (by have := bitN_le false 1; have := bitN_le la 2; have := bitN_le true 4; have := bitN_le ld 8; have := bitN_le fin 16; omega)) ?_
  refine held_call 9 rfl (by kernel_rfl) (by kernel_rfl) (by kernel_rfl) (bitR_b true 4 _) (fun w' h => bel_in B2 h) ?_
  intro W3 hW3
  have B3 := bel_in B2 hW3
  clear hW3 B2
  refine held_free 10 (.int .u64 ((bitN false 1 + bitN la 2 + bitN true 4 : Nat) : Int)) rfl (by kernel_rfl) (by kernel_rfl) (by kernel_rfl) (by kernel_rfl) B3 (fun _ _ => ex_add64 22 22 (.tmp 14) (.tmp 17) (by kernel_rfl) (bitN false 1 + bitN la 2) (bitN true 4) (by kernel_rfl) (by kernel_rfl) (by kernel_rfl) (by have := bitN_le false 1; have := bitN_le la 2; have := bitN_le true 4; have := bitN_le ld 8; have := bitN_le fin 16; omega)) ?_
  refine held_call 13 rfl (by kernel_rfl) (by kernel_rfl) (by kernel_rfl) (bitR_b ld 8 _) (fun w' h => bel_in B3 h) ?_
  intro W4 hW4
  have B4 := bel_in B3 hW4
  clear hW4 B3
  refine held_free 14 (.int .u64 ((bitN false 1 + bitN la 2 + bitN true 4 + bitN ld 8 : Nat) : Int)) rfl (by kernel_rfl) (by kernel_rfl) (by kernel_rfl) (by kernel_rfl) B4 (fun _ _ => ex_add64 22 22 (.tmp 18) (.tmp 21) (by kernel_rfl) (bitN false 1 + bitN la 2 + bitN true 4) (bitN ld 8) (by kernel_rfl) (by kernel_rfl) (by kernel_rfl) (by have := bitN_le false 1; have := bitN_le la 2; have := bitN_le true 4; have := bitN_le ld 8; have := bitN_le fin 16; omega)) ?_
  refine held_call 17 rfl (by kernel_rfl) (by kernel_rfl) (by kernel_rfl) (bitR_b fin 16 _) (fun w' h => bel_in B4 h) ?_
  intro W5 hW5
  have B5 := bel_in B4 hW5
  clear hW5 B4
  refine held_free 18 (.int .u64 ((bitN false 1 + bitN la 2 + bitN true 4 + bitN ld 8 + bitN fin 16 : Nat) : Int)) rfl (by kernel_rfl) (by kernel_rfl) (by kernel_rfl) (by kernel_rfl) B5 (fun _ _ => ex_add64 22 22 (.tmp 22) (.tmp 25) (by kernel_rfl) (bitN false 1 + bitN la 2 + bitN true 4 + bitN ld 8) (bitN fin 16) (by kernel_rfl) (by kernel_rfl) (by kernel_rfl) (by have := bitN_le false 1; have := bitN_le la 2; have := bitN_le true 4; have := bitN_le ld 8; have := bitN_le fin 16; omega)) ?_
  refine held_call 19 rfl (by kernel_rfl) (by kernel_rfl) (by kernel_rfl) (Laid_t (bitN false 1 + bitN la 2 + bitN true 4 + bitN ld 8 + bitN fin 16) (1) t1 _ HN1.out.1 HN1.out.2.1 HN1.out.2.2 HT1.out) (fun w' h => bel_in B5 h) ?_
  intro W6 hW6
  have B6 := bel_in B5 hW6
  clear hW6 B5
  refine held_free 20 (.string T1) rfl (by kernel_rfl) (by kernel_rfl) (by kernel_rfl) (by kernel_rfl) B6 (fun _ _ => ex_strcat 9 9 (.const (.string ⟨#[32]⟩)) (.tmp 27) (by kernel_rfl) (⟨#[32]⟩) (t1) T1 (by kernel_rfl) (by kernel_rfl) HC1.out.1 HC1.out.2.1 HC1.out.2.2) ?_
  refine held_free 21 (.string T1) rfl (by kernel_rfl) (by kernel_rfl) (by kernel_rfl) (by kernel_rfl) B6 (fun _ _ => by kernel_rfl) ?_
  refine held_end (by kernel_rfl) ?_
  obtain ⟨V1, hV⟩ : ∃ V, V = W6 := ⟨_, rfl⟩
  rw [← hV] at B6 ⊢
  clear hV
  have HX2 := Lib.hid (HX1.out.below B6 HX1.out.lt)
  have HB2 := Lib.hid (HB1.out.trans (B6.mono HB1.out.size))
  clear B6 HX1 HB1
  have c1 := HX2.out.cell 1
  have c4 := HX2.out.cell 4
  have c9 := HX2.out.cell 9
  have c10 := HX2.out.cell 10
  simp only [List.getElem?_toArray, List.getElem?_cons_zero, List.getElem?_cons_succ] at c1 c4 c9 c10
  go_upto_region 7 with fail
  clear c1 c4 c9 c10
  have B0 : Below V1.heap.size V1 V1.drew := (Below.refl _ V1).drew
  refine held_start (fun W => Below V1.heap.size V1 W) (by kernel_rfl) (n := 19) rfl ?_
  obtain ⟨W0, hW0⟩ : ∃ W0, W0 = V1.drew := ⟨_, rfl⟩
  rw [← hW0] at B0 ⊢
  clear hW0
  refine held_free 0 (.string T1) rfl (by kernel_rfl) (by kernel_rfl) (by kernel_rfl) (by kernel_rfl) B0 (fun _ _ => by kernel_rfl) ?_
  refine held_free 1 (.pointer (some ⟨b0, 6, none⟩)) rfl (by kernel_rfl) (by kernel_rfl) (by kernel_rfl) (by kernel_rfl) B0 (fun _ _ => ex_field (v := .pointer (some ⟨b0, 0, none⟩)) 26 (.tmp 1) 6 (by kernel_rfl) (by kernel_rfl) (by kernel_rfl)) ?_
  refine held_free 2 (.int .u64 (dsn : Int)) rfl (by kernel_rfl) (by kernel_rfl) (by kernel_rfl) (by kernel_rfl) B0 (fun W b => ex_load 22 (.tmp 42) (by kernel_rfl) ⟨b0, 6, none⟩ (by kernel_rfl) (by kernel_rfl) ((HX2.out.below b HX2.out.lt).cell 6)) ?_
  refine held_free 3 (.pointer (some ⟨b0, 5, none⟩)) rfl (by kernel_rfl) (by kernel_rfl) (by kernel_rfl) (by kernel_rfl) B0 (fun _ _ => ex_field (v := .pointer (some ⟨b0, 0, none⟩)) 26 (.tmp 1) 5 (by kernel_rfl) (by kernel_rfl) (by kernel_rfl)) ?_
  refine held_free 4 (.bool ld) rfl (by kernel_rfl) (by kernel_rfl) (by kernel_rfl) (by kernel_rfl) B0 (fun W b => ex_load 4 (.tmp 44) (by kernel_rfl) ⟨b0, 5, none⟩ (by kernel_rfl) (by kernel_rfl) ((HX2.out.below b HX2.out.lt).cell 5)) ?_
  refine held_free 8 (.pointer (some ⟨b0, 7, none⟩)) rfl (by kernel_rfl) (by kernel_rfl) (by kernel_rfl) (by kernel_rfl) B0 (fun _ _ => ex_field (v := .pointer (some ⟨b0, 0, none⟩)) 26 (.tmp 1) 7 (by kernel_rfl) (by kernel_rfl) (by kernel_rfl)) ?_
  refine held_free 9 (.int .u32 (ssn : Int)) rfl (by kernel_rfl) (by kernel_rfl) (by kernel_rfl) (by kernel_rfl) B0 (fun W b => ex_load 23 (.tmp 49) (by kernel_rfl) ⟨b0, 7, none⟩ (by kernel_rfl) (by kernel_rfl) ((HX2.out.below b HX2.out.lt).cell 7)) ?_
  refine held_free 10 (.int .u64 (ssn : Int)) rfl (by kernel_rfl) (by kernel_rfl) (by kernel_rfl) (by kernel_rfl) B0 (fun W _ => ex_convert_to (v := .int .u32 (ssn : Int)) 23 22 (.tmp 50) (by kernel_rfl) (by kernel_rfl) (conv_w _ _ .u32 .u64 (ssn : Int) (ssn : Int) (by kernel_rfl) (by kernel_rfl) (by kernel_rfl) (by rw [IntKind.wrap_u64]; have := HR.out; omega) W)) ?_
  refine held_free 13 (.pointer (some ⟨b0, 8, none⟩)) rfl (by kernel_rfl) (by kernel_rfl) (by kernel_rfl) (by kernel_rfl) B0 (fun _ _ => ex_field (v := .pointer (some ⟨b0, 0, none⟩)) 26 (.tmp 1) 8 (by kernel_rfl) (by kernel_rfl) (by kernel_rfl)) ?_
  refine held_free 14 (.int .i64 (len : Int)) rfl (by kernel_rfl) (by kernel_rfl) (by kernel_rfl) (by kernel_rfl) B0 (fun W b => ex_load 3 (.tmp 54) (by kernel_rfl) ⟨b0, 8, none⟩ (by kernel_rfl) (by kernel_rfl) ((HX2.out.below b HX2.out.lt).cell 8)) ?_
  refine held_free 15 (.int .u64 (len : Int)) rfl (by kernel_rfl) (by kernel_rfl) (by kernel_rfl) (by kernel_rfl) B0 (fun W _ => ex_convert_to (v := .int .i64 (len : Int)) 3 22 (.tmp 55) (by kernel_rfl) (by kernel_rfl) (conv_w _ _ .i64 .u64 (len : Int) (len : Int) (by kernel_rfl) (by kernel_rfl) (by kernel_rfl) (by rw [IntKind.wrap_u64]; have := HR.out; omega) W)) ?_
  refine held_call 5 rfl (by kernel_rfl) (by kernel_rfl) (by kernel_rfl) (wideR_b ld _) (fun w' h => bel_in B0 h) ?_
  intro W1 hW1
  have B1 := bel_in B0 hW1
  clear hW1 B0
  refine held_call 6 rfl (by kernel_rfl) (by kernel_rfl) (by kernel_rfl) (Laid_t (dsn) (wA true ld) t3 _ HN3.out.1 HN3.out.2.1 HN3.out.2.2 HT3.out) (fun w' h => bel_in B1 h) ?_
  intro W2 hW2
  have B2 := bel_in B1 hW2
  clear hW2 B1
  refine held_free 7 (.string T3) rfl (by kernel_rfl) (by kernel_rfl) (by kernel_rfl) (by kernel_rfl) B2 (fun _ _ => ex_strcat 9 9 (.tmp 41) (.tmp 47) (by kernel_rfl) (T1) (t3) T3 (by kernel_rfl) (by kernel_rfl) HC3.out.1 HC3.out.2.1 HC3.out.2.2) ?_
  refine held_call 11 rfl (by kernel_rfl) (by kernel_rfl) (by kernel_rfl) (Laid_t (ssn) (4) t4 _ HN4.out.1 HN4.out.2.1 HN4.out.2.2 HT4.out) (fun w' h => bel_in B2 h) ?_
  intro W3 hW3
  have B3 := bel_in B2 hW3
  clear hW3 B2
  refine held_free 12 (.string T4) rfl (by kernel_rfl) (by kernel_rfl) (by kernel_rfl) (by kernel_rfl) B3 (fun _ _ => ex_strcat 9 9 (.tmp 48) (.tmp 52) (by kernel_rfl) (T3) (t4) T4 (by kernel_rfl) (by kernel_rfl) HC4.out.1 HC4.out.2.1 HC4.out.2.2) ?_
  refine held_call 16 rfl (by kernel_rfl) (by kernel_rfl) (by kernel_rfl) (Laid_t (len) (2) t5 _ HN5.out.1 HN5.out.2.1 HN5.out.2.2 HT5.out) (fun w' h => bel_in B3 h) ?_
  intro W4 hW4
  have B4 := bel_in B3 hW4
  clear hW4 B3
  refine held_free 17 (.string T5) rfl (by kernel_rfl) (by kernel_rfl) (by kernel_rfl) (by kernel_rfl) B4 (fun _ _ => ex_strcat 9 9 (.tmp 53) (.tmp 57) (by kernel_rfl) (T4) (t5) T5 (by kernel_rfl) (by kernel_rfl) HC5.out.1 HC5.out.2.1 HC5.out.2.2) ?_
  refine held_free 18 (.string T5) rfl (by kernel_rfl) (by kernel_rfl) (by kernel_rfl) (by kernel_rfl) B4 (fun _ _ => by kernel_rfl) ?_
  refine held_end (by kernel_rfl) ?_
  obtain ⟨V2, hV⟩ : ∃ V, V = W4 := ⟨_, rfl⟩
  rw [← hV] at B4 ⊢
  clear hV
  have HX3 := Lib.hid (HX2.out.below B4 HX2.out.lt)
  have HB3 := Lib.hid (HB2.out.trans (B4.mono HB2.out.size))
  clear B4 HX2 HB2
  have c1 := HX3.out.cell 1
  have c4 := HX3.out.cell 4
  have c9 := HX3.out.cell 9
  have c10 := HX3.out.cell 10
  simp only [List.getElem?_toArray, List.getElem?_cons_zero, List.getElem?_cons_succ] at c1 c4 c9 c10
  have hsw : IntKind.u64.wrap (sum : Int) = (sum : Int) := by rw [IntKind.wrap_u64]; have := HR.out; omega
  have hsw' : (sum : Int) % 18446744073709551616 = (sum : Int) := by have := HR.out; omega
  go_wp2_with fail
  refine (Laid_t sum 2 t6 _ HN6.out.1 HN6.out.2.1 HN6.out.2.2 HT6.out).mono ?_
  rintro e Vz ⟨rfl, b⟩
  have HBZ := Lib.hid (HB3.out.trans (b.mono HB3.out.size))
  clear b c1 c4 c9 c10
  have hcat := run_string_add (P := Try.prog) Vz T5 t6 HC6.out.1 HC6.out.2.1
  rw [← HC6.out.2.2] at hcat
  go_wp2_with fail
  go_ret2
  exact ⟨by rw [HV2.out]; rfl, HBZ.out⟩
set_option maxHeartbeats 2000000 in
set_option maxRecDepth 100000 in
theorem encR_ttf (fin : Bool) (la : Bool) (ack : Nat) (ld : Bool) (dsn : Nat) (ssn : Nat) (len : Nat) (sum : Nat) (hx : Ds.Ok (⟨fin, true, la, ack, true, ld, dsn, ssn, (len : Int), false, sum⟩ : Ds)) (hm : Ds.May (⟨fin, true, la, ack, true, ld, dsn, ssn, (len : Int), false, sum⟩ : Ds)) (w : World) :
    Calls Try.prog 11 #[.agg (dsv (⟨fin, true, la, ack, true, ld, dsn, ssn, (len : Int), false, sum⟩ : Ds))] w fun e w' => e = .returned (encV (⟨fin, true, la, ack, true, ld, dsn, ssn, (len : Int), false, sum⟩ : Ds)) ∧ Below w.heap.size w w' := by
  have HX0 := Lib.hid hx
  have HM := Lib.hid hm
  obtain ⟨V, hV⟩ : ∃ V, V = encV (⟨fin, true, la, ack, true, ld, dsn, ssn, (len : Int), false, sum⟩ : Ds) := ⟨_, rfl⟩
  rw [← hV]
  rw [encV_t _ hm] at hV
  have HVV := Lib.hid hV
  clear hx hm hV
  have hok := HX0.out
  have hm0 := HM.out
  have HR := Lib.hid (show ssn ≤ 4294967295 ∧ len ≤ 65535 ∧ sum ≤ 65535 from ⟨hok.ssn, by have q := hm0.2.2.2.2.2; simp only [] at q; omega, hok.sum⟩)
  have z0 : (⟨#[32]⟩ : ByteArray).size ≤ 1 := by decide
  have hm1' : 1 ≤ 1 ∧ 1 ≤ 1 := by omega
  obtain ⟨t1, ht1⟩ : ∃ t, txt (be 1 (Ds.bits (⟨fin, true, la, ack, true, ld, dsn, ssn, (len : Int), false, sum⟩ : Ds))) = t := ⟨_, rfl⟩
  have y1 : t1.size ≤ 1 := by rw [← ht1, txt_small]; omega
  obtain ⟨T1, hT1⟩ : ∃ T, T = (⟨#[32]⟩ : ByteArray) ++ t1 := ⟨_, rfl⟩
  have z1 : T1.size ≤ 2 := by rw [hT1, ByteArray.size_append]; omega
  have HN1 := Lib.hid (show (Ds.bits (⟨fin, true, la, ack, true, ld, dsn, ssn, (len : Int), false, sum⟩ : Ds)) ≤ 18446744073709551615 ∧ 1 ≤ 1 ∧ 1 ≤ 8 from ⟨by have := Ds.bits_lt (⟨fin, true, la, ack, true, ld, dsn, ssn, (len : Int), false, sum⟩ : Ds); omega, hm1'.1, by omega⟩)
  have HT1 := Lib.hid ht1
  have HC1 := Lib.hid (show ((⟨#[32]⟩ : ByteArray).size : Int) ≤ 8388608 ∧ (t1.size : Int) ≤ 8388608 ∧ T1 = (⟨#[32]⟩ : ByteArray) ++ t1 from ⟨by omega, by omega, hT1⟩)
  have hm2' : 1 ≤ (wA true la) ∧ (wA true la) ≤ 8 := by cases la <;> decide
  obtain ⟨t2, ht2⟩ : ∃ t, txt (be (wA true la) ack) = t := ⟨_, rfl⟩
  have y2 : t2.size ≤ 8 := by rw [← ht2, txt_small]; omega
  obtain ⟨T2, hT2⟩ : ∃ T, T = T1 ++ t2 := ⟨_, rfl⟩
  have z2 : T2.size ≤ 10 := by rw [hT2, ByteArray.size_append]; omega
  have HN2 := Lib.hid (show ack ≤ 18446744073709551615 ∧ 1 ≤ (wA true la) ∧ (wA true la) ≤ 8 from ⟨hok.ack, hm2'.1, by omega⟩)
  have HT2 := Lib.hid ht2
  have HC2 := Lib.hid (show (T1.size : Int) ≤ 8388608 ∧ (t2.size : Int) ≤ 8388608 ∧ T2 = T1 ++ t2 from ⟨by omega, by omega, hT2⟩)
  have hm3' : 1 ≤ (wA true ld) ∧ (wA true ld) ≤ 8 := by cases ld <;> decide
  obtain ⟨t3, ht3⟩ : ∃ t, txt (be (wA true ld) dsn) = t := ⟨_, rfl⟩
  have y3 : t3.size ≤ 8 := by rw [← ht3, txt_small]; omega
  obtain ⟨T3, hT3⟩ : ∃ T, T = T2 ++ t3 := ⟨_, rfl⟩
  have z3 : T3.size ≤ 18 := by rw [hT3, ByteArray.size_append]; omega
  have HN3 := Lib.hid (show dsn ≤ 18446744073709551615 ∧ 1 ≤ (wA true ld) ∧ (wA true ld) ≤ 8 from ⟨hok.dsn, hm3'.1, by omega⟩)
  have HT3 := Lib.hid ht3
  have HC3 := Lib.hid (show (T2.size : Int) ≤ 8388608 ∧ (t3.size : Int) ≤ 8388608 ∧ T3 = T2 ++ t3 from ⟨by omega, by omega, hT3⟩)
  have hm4' : 1 ≤ 4 ∧ 4 ≤ 4 := by omega
  obtain ⟨t4, ht4⟩ : ∃ t, txt (be 4 ssn) = t := ⟨_, rfl⟩
  have y4 : t4.size ≤ 4 := by rw [← ht4, txt_small]; omega
  obtain ⟨T4, hT4⟩ : ∃ T, T = T3 ++ t4 := ⟨_, rfl⟩
  have z4 : T4.size ≤ 22 := by rw [hT4, ByteArray.size_append]; omega
  have HN4 := Lib.hid (show ssn ≤ 18446744073709551615 ∧ 1 ≤ 4 ∧ 4 ≤ 8 from ⟨by have := hok.ssn; simp only [] at this; omega, hm4'.1, by omega⟩)
  have HT4 := Lib.hid ht4
  have HC4 := Lib.hid (show (T3.size : Int) ≤ 8388608 ∧ (t4.size : Int) ≤ 8388608 ∧ T4 = T3 ++ t4 from ⟨by omega, by omega, hT4⟩)
  have hm5' : 1 ≤ 2 ∧ 2 ≤ 2 := by omega
  obtain ⟨t5, ht5⟩ : ∃ t, txt (be 2 len) = t := ⟨_, rfl⟩
  have y5 : t5.size ≤ 2 := by rw [← ht5, txt_small]; omega
  obtain ⟨T5, hT5⟩ : ∃ T, T = T4 ++ t5 := ⟨_, rfl⟩
  have z5 : T5.size ≤ 24 := by rw [hT5, ByteArray.size_append]; omega
  have HN5 := Lib.hid (show len ≤ 18446744073709551615 ∧ 1 ≤ 2 ∧ 2 ≤ 8 from ⟨by have := HR.out; omega, hm5'.1, by omega⟩)
  have HT5 := Lib.hid ht5
  have HC5 := Lib.hid (show (T4.size : Int) ≤ 8388608 ∧ (t5.size : Int) ≤ 8388608 ∧ T5 = T4 ++ t5 from ⟨by omega, by omega, hT5⟩)
  have hTb : T5 = txt (Ds.body (⟨fin, true, la, ack, true, ld, dsn, ssn, (len : Int), false, sum⟩ : Ds)) := by
    rw [hT5, hT4, hT3, hT2, hT1, ← ht1, ← ht2, ← ht3, ← ht4, ← ht5, show (⟨#[32]⟩ : ByteArray) = txt [32] from rfl]
    simp only [txt_app]
    simp [Ds.body, Ds.rest, w4, w2, wA, be]
  have HV2 := Lib.hid (show V = .tuple #[.string T5, .int .i64 0] by rw [HVV.out, hTb])
  obtain ⟨b0, hb0⟩ : ∃ b, b = w.heap.size := ⟨_, rfl⟩
  have hx0 : Blk (w.alloc (.cells (dsv (⟨fin, true, la, ack, true, ld, dsn, ssn, (len : Int), false, sum⟩ : Ds)) 26)) b0 26 (dsv (⟨fin, true, la, ack, true, ld, dsn, ssn, (len : Int), false, sum⟩ : Ds)) := by rw [hb0]; exact Blk.new _ _ _
  have hlt : b0 < (w.alloc (.cells (dsv (⟨fin, true, la, ack, true, ld, dsn, ssn, (len : Int), false, sum⟩ : Ds)) 26)).heap.size := hx0.lt
  have HB := Lib.hid ((Below.refl _ w).alloc (Nat.le_refl _) (.cells (dsv (⟨fin, true, la, ack, true, ld, dsn, ssn, (len : Int), false, sum⟩ : Ds)) 26))
  have HXW := Lib.hid hx0
  have HBE := Lib.hid hb0
  clear hok hm0 hx0 hlt hb0 z0 hTb hm1' ht1 y1 hT1 z1 hm2' ht2 y2 hT2 z2 hm3' ht3 y3 hT3 z3 hm4' ht4 y4 hT4 z4 hm5' ht5 y5 hT5 z5
  go_enter Try.func11, Try.ntmps11
  go_wp2_with (refine wpList_load_row rfl 26 _ rfl w.heap.size rfl 26 (dsv (⟨fin, true, la, ack, true, ld, dsn, ssn, (len : Int), false, sum⟩ : Ds)) (0, 0) _ ?_ Try.underlying26 rfl ds_size ?_; have q := HXW.out; rw [HBE.out] at q; exact q)
  refine (MayR_any (⟨fin, true, la, ack, true, ld, dsn, ssn, (len : Int), false, sum⟩ : Ds) _).mono ?_
  rintro e V0 ⟨rfl, b⟩
  rw [decide_eq_true HM.out]
  have HX1 := Lib.hid (HXW.out.below b HXW.out.lt)
  have HB1 := Lib.hid (HB.out.trans (b.mono HB.out.size))
  clear b HXW HB
  go_upto_region 3 with fail
  rw [← HBE.out]
  have B0 : Below V0.heap.size V0 V0.drew := (Below.refl _ V0).drew
  refine held_start (fun W => Below V0.heap.size V0 W) (by kernel_rfl) (n := 22) rfl ?_
  obtain ⟨W0, hW0⟩ : ∃ W0, W0 = V0.drew := ⟨_, rfl⟩
  rw [← hW0] at B0 ⊢
  clear hW0
  refine held_free 0 (.pointer (some ⟨b0, 1, none⟩)) rfl (by kernel_rfl) (by kernel_rfl) (by kernel_rfl) (by kernel_rfl) B0 (fun _ _ => ex_field (v := .pointer (some ⟨b0, 0, none⟩)) 26 (.tmp 1) 1 (by kernel_rfl) (by kernel_rfl) (by kernel_rfl)) ?_
  refine held_free 1 (.bool true) rfl (by kernel_rfl) (by kernel_rfl) (by kernel_rfl) (by kernel_rfl) B0 (fun W b => ex_load 4 (.tmp 8) (by kernel_rfl) ⟨b0, 1, none⟩ (by kernel_rfl) (by kernel_rfl) ((HX1.out.below b HX1.out.lt).cell 1)) ?_
  refine held_free 3 (.pointer (some ⟨b0, 2, none⟩)) rfl (by kernel_rfl) (by kernel_rfl) (by kernel_rfl) (by kernel_rfl) B0 (fun _ _ => ex_field (v := .pointer (some ⟨b0, 0, none⟩)) 26 (.tmp 1) 2 (by kernel_rfl) (by kernel_rfl) (by kernel_rfl)) ?_
  refine held_free 4 (.bool la) rfl (by kernel_rfl) (by kernel_rfl) (by kernel_rfl) (by kernel_rfl) B0 (fun W b => ex_load 4 (.tmp 11) (by kernel_rfl) ⟨b0, 2, none⟩ (by kernel_rfl) (by kernel_rfl) ((HX1.out.below b HX1.out.lt).cell 2)) ?_
  refine held_free 7 (.pointer (some ⟨b0, 4, none⟩)) rfl (by kernel_rfl) (by kernel_rfl) (by kernel_rfl) (by kernel_rfl) B0 (fun _ _ => ex_field (v := .pointer (some ⟨b0, 0, none⟩)) 26 (.tmp 1) 4 (by kernel_rfl) (by kernel_rfl) (by kernel_rfl)) ?_
  refine held_free 8 (.bool true) rfl (by kernel_rfl) (by kernel_rfl) (by kernel_rfl) (by kernel_rfl) B0 (fun W b => ex_load 4 (.tmp 15) (by kernel_rfl) ⟨b0, 4, none⟩ (by kernel_rfl) (by kernel_rfl) ((HX1.out.below b HX1.out.lt).cell 4)) ?_
  refine held_free 11 (.pointer (some ⟨b0, 5, none⟩)) rfl (by kernel_rfl) (by kernel_rfl) (by kernel_rfl) (by kernel_rfl) B0 (fun _ _ => ex_field (v := .pointer (some ⟨b0, 0, none⟩)) 26 (.tmp 1) 5 (by kernel_rfl) (by kernel_rfl) (by kernel_rfl)) ?_
  refine held_free 12 (.bool ld) rfl (by kernel_rfl) (by kernel_rfl) (by kernel_rfl) (by kernel_rfl) B0 (fun W b => ex_load 4 (.tmp 19) (by kernel_rfl) ⟨b0, 5, none⟩ (by kernel_rfl) (by kernel_rfl) ((HX1.out.below b HX1.out.lt).cell 5)) ?_
  refine held_free 15 (.pointer (some ⟨b0, 0, none⟩)) rfl (by kernel_rfl) (by kernel_rfl) (by kernel_rfl) (by kernel_rfl) B0 (fun _ _ => ex_field (v := .pointer (some ⟨b0, 0, none⟩)) 26 (.tmp 1) 0 (by kernel_rfl) (by kernel_rfl) (by kernel_rfl)) ?_
  refine held_free 16 (.bool fin) rfl (by kernel_rfl) (by kernel_rfl) (by kernel_rfl) (by kernel_rfl) B0 (fun W b => ex_load 4 (.tmp 23) (by kernel_rfl) ⟨b0, 0, none⟩ (by kernel_rfl) (by kernel_rfl) ((HX1.out.below b HX1.out.lt).cell 0)) ?_
  refine held_call 2 rfl (by kernel_rfl) (by kernel_rfl) (by kernel_rfl) (bitR_b true 1 _) (fun w' h => bel_in B0 h) ?_
  intro W1 hW1
  have B1 := bel_in B0 hW1
  clear hW1 B0
  refine held_call 5 rfl (by kernel_rfl) (by kernel_rfl) (by kernel_rfl) (bitR_b la 2 _) (fun w' h => bel_in B1 h) ?_
  intro W2 hW2
  have B2 := bel_in B1 hW2
  clear hW2 B1
  refine held_free 6 (.int .u64 ((bitN true 1 + bitN la 2 : Nat) : Int)) rfl (by kernel_rfl) (by kernel_rfl) (by kernel_rfl) (by kernel_rfl) B2 (fun _ _ => ex_add64 22 22 (.tmp 10) (.tmp 13) (by kernel_rfl) (bitN true 1) (bitN la 2) (by kernel_rfl) (by kernel_rfl) (by kernel_rfl) (by have := bitN_le true 1; have := bitN_le la 2; have := bitN_le true 4; have := bitN_le ld 8; have := bitN_le fin 16; omega)) ?_
  refine held_call 9 rfl (by kernel_rfl) (by kernel_rfl) (by kernel_rfl) (bitR_b true 4 _) (fun w' h => bel_in B2 h) ?_
  intro W3 hW3
  have B3 := bel_in B2 hW3
  clear hW3 B2
  refine held_free 10 (.int .u64 ((bitN true 1 + bitN la 2 + bitN true 4 : Nat) : Int)) rfl (by kernel_rfl) (by kernel_rfl) (by kernel_rfl) (by kernel_rfl) B3 (fun _ _ => ex_add64 22 22 (.tmp 14) (.tmp 17) (by kernel_rfl) (bitN true 1 + bitN la 2) (bitN true 4) (by kernel_rfl) (by kernel_rfl) (by kernel_rfl) (by have := bitN_le true 1; have := bitN_le la 2; have := bitN_le true 4; have := bitN_le ld 8; have := bitN_le fin 16; omega)) ?_
  refine held_call 13 rfl (by kernel_rfl) (by kernel_rfl) (by kernel_rfl) (bitR_b ld 8 _) (fun w' h => bel_in B3 h) ?_
  intro W4 hW4
  have B4 := bel_in B3 hW4
  clear hW4 B3
  refine held_free 14 (.int .u64 ((bitN true 1 + bitN la 2 + bitN true 4 + bitN ld 8 : Nat) : Int)) rfl (by kernel_rfl) (by kernel_rfl) (by kernel_rfl) (by kernel_rfl) B4 (fun _ _ => ex_add64 22 22 (.tmp 18) (.tmp 21) (by kernel_rfl) (bitN true 1 + bitN la 2 + bitN true 4) (bitN ld 8) (by kernel_rfl) (by kernel_rfl) (by kernel_rfl) (by have := bitN_le true 1; have := bitN_le la 2; have := bitN_le true 4; have := bitN_le ld 8; have := bitN_le fin 16; omega)) ?_
  refine held_call 17 rfl (by kernel_rfl) (by kernel_rfl) (by kernel_rfl) (bitR_b fin 16 _) (fun w' h => bel_in B4 h) ?_
  intro W5 hW5
  have B5 := bel_in B4 hW5
  clear hW5 B4
  refine held_free 18 (.int .u64 ((bitN true 1 + bitN la 2 + bitN true 4 + bitN ld 8 + bitN fin 16 : Nat) : Int)) rfl (by kernel_rfl) (by kernel_rfl) (by kernel_rfl) (by kernel_rfl) B5 (fun _ _ => ex_add64 22 22 (.tmp 22) (.tmp 25) (by kernel_rfl) (bitN true 1 + bitN la 2 + bitN true 4 + bitN ld 8) (bitN fin 16) (by kernel_rfl) (by kernel_rfl) (by kernel_rfl) (by have := bitN_le true 1; have := bitN_le la 2; have := bitN_le true 4; have := bitN_le ld 8; have := bitN_le fin 16; omega)) ?_
  refine held_call 19 rfl (by kernel_rfl) (by kernel_rfl) (by kernel_rfl) (Laid_t (bitN true 1 + bitN la 2 + bitN true 4 + bitN ld 8 + bitN fin 16) (1) t1 _ HN1.out.1 HN1.out.2.1 HN1.out.2.2 HT1.out) (fun w' h => bel_in B5 h) ?_
  intro W6 hW6
  have B6 := bel_in B5 hW6
  clear hW6 B5
  refine held_free 20 (.string T1) rfl (by kernel_rfl) (by kernel_rfl) (by kernel_rfl) (by kernel_rfl) B6 (fun _ _ => ex_strcat 9 9 (.const (.string ⟨#[32]⟩)) (.tmp 27) (by kernel_rfl) (⟨#[32]⟩) (t1) T1 (by kernel_rfl) (by kernel_rfl) HC1.out.1 HC1.out.2.1 HC1.out.2.2) ?_
  refine held_free 21 (.string T1) rfl (by kernel_rfl) (by kernel_rfl) (by kernel_rfl) (by kernel_rfl) B6 (fun _ _ => by kernel_rfl) ?_
  refine held_end (by kernel_rfl) ?_
  obtain ⟨V1, hV⟩ : ∃ V, V = W6 := ⟨_, rfl⟩
  rw [← hV] at B6 ⊢
  clear hV
  have HX2 := Lib.hid (HX1.out.below B6 HX1.out.lt)
  have HB2 := Lib.hid (HB1.out.trans (B6.mono HB1.out.size))
  clear B6 HX1 HB1
  have c1 := HX2.out.cell 1
  have c4 := HX2.out.cell 4
  have c9 := HX2.out.cell 9
  simp only [List.getElem?_toArray, List.getElem?_cons_zero, List.getElem?_cons_succ] at c1 c4 c9
  go_upto_region 5 with fail
  clear c1 c4 c9
  have B0 : Below V1.heap.size V1 V1.drew := (Below.refl _ V1).drew
  refine held_start (fun W => Below V1.heap.size V1 W) (by kernel_rfl) (n := 9) rfl ?_
  obtain ⟨W0, hW0⟩ : ∃ W0, W0 = V1.drew := ⟨_, rfl⟩
  rw [← hW0] at B0 ⊢
  clear hW0
  refine held_free 0 (.string T1) rfl (by kernel_rfl) (by kernel_rfl) (by kernel_rfl) (by kernel_rfl) B0 (fun _ _ => by kernel_rfl) ?_
  refine held_free 1 (.pointer (some ⟨b0, 3, none⟩)) rfl (by kernel_rfl) (by kernel_rfl) (by kernel_rfl) (by kernel_rfl) B0 (fun _ _ => ex_field (v := .pointer (some ⟨b0, 0, none⟩)) 26 (.tmp 1) 3 (by kernel_rfl) (by kernel_rfl) (by kernel_rfl)) ?_
  refine held_free 2 (.int .u64 (ack : Int)) rfl (by kernel_rfl) (by kernel_rfl) (by kernel_rfl) (by kernel_rfl) B0 (fun W b => ex_load 22 (.tmp 32) (by kernel_rfl) ⟨b0, 3, none⟩ (by kernel_rfl) (by kernel_rfl) ((HX2.out.below b HX2.out.lt).cell 3)) ?_
  refine held_free 3 (.pointer (some ⟨b0, 2, none⟩)) rfl (by kernel_rfl) (by kernel_rfl) (by kernel_rfl) (by kernel_rfl) B0 (fun _ _ => ex_field (v := .pointer (some ⟨b0, 0, none⟩)) 26 (.tmp 1) 2 (by kernel_rfl) (by kernel_rfl) (by kernel_rfl)) ?_
  refine held_free 4 (.bool la) rfl (by kernel_rfl) (by kernel_rfl) (by kernel_rfl) (by kernel_rfl) B0 (fun W b => ex_load 4 (.tmp 34) (by kernel_rfl) ⟨b0, 2, none⟩ (by kernel_rfl) (by kernel_rfl) ((HX2.out.below b HX2.out.lt).cell 2)) ?_
  refine held_call 5 rfl (by kernel_rfl) (by kernel_rfl) (by kernel_rfl) (wideR_b la _) (fun w' h => bel_in B0 h) ?_
  intro W1 hW1
  have B1 := bel_in B0 hW1
  clear hW1 B0
  refine held_call 6 rfl (by kernel_rfl) (by kernel_rfl) (by kernel_rfl) (Laid_t (ack) (wA true la) t2 _ HN2.out.1 HN2.out.2.1 HN2.out.2.2 HT2.out) (fun w' h => bel_in B1 h) ?_
  intro W2 hW2
  have B2 := bel_in B1 hW2
  clear hW2 B1
  refine held_free 7 (.string T2) rfl (by kernel_rfl) (by kernel_rfl) (by kernel_rfl) (by kernel_rfl) B2 (fun _ _ => ex_strcat 9 9 (.tmp 31) (.tmp 37) (by kernel_rfl) (T1) (t2) T2 (by kernel_rfl) (by kernel_rfl) HC2.out.1 HC2.out.2.1 HC2.out.2.2) ?_
  refine held_free 8 (.string T2) rfl (by kernel_rfl) (by kernel_rfl) (by kernel_rfl) (by kernel_rfl) B2 (fun _ _ => by kernel_rfl) ?_
  refine held_end (by kernel_rfl) ?_
  obtain ⟨V2, hV⟩ : ∃ V, V = W2 := ⟨_, rfl⟩
  rw [← hV] at B2 ⊢
  clear hV
  have HX3 := Lib.hid (HX2.out.below B2 HX2.out.lt)
  have HB3 := Lib.hid (HB2.out.trans (B2.mono HB2.out.size))
  clear B2 HX2 HB2
  have c1 := HX3.out.cell 1
  have c4 := HX3.out.cell 4
  have c9 := HX3.out.cell 9
  simp only [List.getElem?_toArray, List.getElem?_cons_zero, List.getElem?_cons_succ] at c1 c4 c9
  go_upto_region 7 with fail
  clear c1 c4 c9
  have B0 : Below V2.heap.size V2 V2.drew := (Below.refl _ V2).drew
  refine held_start (fun W => Below V2.heap.size V2 W) (by kernel_rfl) (n := 19) rfl ?_
  obtain ⟨W0, hW0⟩ : ∃ W0, W0 = V2.drew := ⟨_, rfl⟩
  rw [← hW0] at B0 ⊢
  clear hW0
  refine held_free 0 (.string T2) rfl (by kernel_rfl) (by kernel_rfl) (by kernel_rfl) (by kernel_rfl) B0 (fun _ _ => by kernel_rfl) ?_
  refine held_free 1 (.pointer (some ⟨b0, 6, none⟩)) rfl (by kernel_rfl) (by kernel_rfl) (by kernel_rfl) (by kernel_rfl) B0 (fun _ _ => ex_field (v := .pointer (some ⟨b0, 0, none⟩)) 26 (.tmp 1) 6 (by kernel_rfl) (by kernel_rfl) (by kernel_rfl)) ?_
  refine held_free 2 (.int .u64 (dsn : Int)) rfl (by kernel_rfl) (by kernel_rfl) (by kernel_rfl) (by kernel_rfl) B0 (fun W b => ex_load 22 (.tmp 42) (by kernel_rfl) ⟨b0, 6, none⟩ (by kernel_rfl) (by kernel_rfl) ((HX3.out.below b HX3.out.lt).cell 6)) ?_
  refine held_free 3 (.pointer (some ⟨b0, 5, none⟩)) rfl (by kernel_rfl) (by kernel_rfl) (by kernel_rfl) (by kernel_rfl) B0 (fun _ _ => ex_field (v := .pointer (some ⟨b0, 0, none⟩)) 26 (.tmp 1) 5 (by kernel_rfl) (by kernel_rfl) (by kernel_rfl)) ?_
  refine held_free 4 (.bool ld) rfl (by kernel_rfl) (by kernel_rfl) (by kernel_rfl) (by kernel_rfl) B0 (fun W b => ex_load 4 (.tmp 44) (by kernel_rfl) ⟨b0, 5, none⟩ (by kernel_rfl) (by kernel_rfl) ((HX3.out.below b HX3.out.lt).cell 5)) ?_
  refine held_free 8 (.pointer (some ⟨b0, 7, none⟩)) rfl (by kernel_rfl) (by kernel_rfl) (by kernel_rfl) (by kernel_rfl) B0 (fun _ _ => ex_field (v := .pointer (some ⟨b0, 0, none⟩)) 26 (.tmp 1) 7 (by kernel_rfl) (by kernel_rfl) (by kernel_rfl)) ?_
  refine held_free 9 (.int .u32 (ssn : Int)) rfl (by kernel_rfl) (by kernel_rfl) (by kernel_rfl) (by kernel_rfl) B0 (fun W b => ex_load 23 (.tmp 49) (by kernel_rfl) ⟨b0, 7, none⟩ (by kernel_rfl) (by kernel_rfl) ((HX3.out.below b HX3.out.lt).cell 7)) ?_
  refine held_free 10 (.int .u64 (ssn : Int)) rfl (by kernel_rfl) (by kernel_rfl) (by kernel_rfl) (by kernel_rfl) B0 (fun W _ => ex_convert_to (v := .int .u32 (ssn : Int)) 23 22 (.tmp 50) (by kernel_rfl) (by kernel_rfl) (conv_w _ _ .u32 .u64 (ssn : Int) (ssn : Int) (by kernel_rfl) (by kernel_rfl) (by kernel_rfl) (by rw [IntKind.wrap_u64]; have := HR.out; omega) W)) ?_
  refine held_free 13 (.pointer (some ⟨b0, 8, none⟩)) rfl (by kernel_rfl) (by kernel_rfl) (by kernel_rfl) (by kernel_rfl) B0 (fun _ _ => ex_field (v := .pointer (some ⟨b0, 0, none⟩)) 26 (.tmp 1) 8 (by kernel_rfl) (by kernel_rfl) (by kernel_rfl)) ?_
  refine held_free 14 (.int .i64 (len : Int)) rfl (by kernel_rfl) (by kernel_rfl) (by kernel_rfl) (by kernel_rfl) B0 (fun W b => ex_load 3 (.tmp 54) (by kernel_rfl) ⟨b0, 8, none⟩ (by kernel_rfl) (by kernel_rfl) ((HX3.out.below b HX3.out.lt).cell 8)) ?_
  refine held_free 15 (.int .u64 (len : Int)) rfl (by kernel_rfl) (by kernel_rfl) (by kernel_rfl) (by kernel_rfl) B0 (fun W _ => ex_convert_to (v := .int .i64 (len : Int)) 3 22 (.tmp 55) (by kernel_rfl) (by kernel_rfl) (conv_w _ _ .i64 .u64 (len : Int) (len : Int) (by kernel_rfl) (by kernel_rfl) (by kernel_rfl) (by rw [IntKind.wrap_u64]; have := HR.out; omega) W)) ?_
  refine held_call 5 rfl (by kernel_rfl) (by kernel_rfl) (by kernel_rfl) (wideR_b ld _) (fun w' h => bel_in B0 h) ?_
  intro W1 hW1
  have B1 := bel_in B0 hW1
  clear hW1 B0
  refine held_call 6 rfl (by kernel_rfl) (by kernel_rfl) (by kernel_rfl) (Laid_t (dsn) (wA true ld) t3 _ HN3.out.1 HN3.out.2.1 HN3.out.2.2 HT3.out) (fun w' h => bel_in B1 h) ?_
  intro W2 hW2
  have B2 := bel_in B1 hW2
  clear hW2 B1
  refine held_free 7 (.string T3) rfl (by kernel_rfl) (by kernel_rfl) (by kernel_rfl) (by kernel_rfl) B2 (fun _ _ => ex_strcat 9 9 (.tmp 41) (.tmp 47) (by kernel_rfl) (T2) (t3) T3 (by kernel_rfl) (by kernel_rfl) HC3.out.1 HC3.out.2.1 HC3.out.2.2) ?_
  refine held_call 11 rfl (by kernel_rfl) (by kernel_rfl) (by kernel_rfl) (Laid_t (ssn) (4) t4 _ HN4.out.1 HN4.out.2.1 HN4.out.2.2 HT4.out) (fun w' h => bel_in B2 h) ?_
  intro W3 hW3
  have B3 := bel_in B2 hW3
  clear hW3 B2
  refine held_free 12 (.string T4) rfl (by kernel_rfl) (by kernel_rfl) (by kernel_rfl) (by kernel_rfl) B3 (fun _ _ => ex_strcat 9 9 (.tmp 48) (.tmp 52) (by kernel_rfl) (T3) (t4) T4 (by kernel_rfl) (by kernel_rfl) HC4.out.1 HC4.out.2.1 HC4.out.2.2) ?_
  refine held_call 16 rfl (by kernel_rfl) (by kernel_rfl) (by kernel_rfl) (Laid_t (len) (2) t5 _ HN5.out.1 HN5.out.2.1 HN5.out.2.2 HT5.out) (fun w' h => bel_in B3 h) ?_
  intro W4 hW4
  have B4 := bel_in B3 hW4
  clear hW4 B3
  refine held_free 17 (.string T5) rfl (by kernel_rfl) (by kernel_rfl) (by kernel_rfl) (by kernel_rfl) B4 (fun _ _ => ex_strcat 9 9 (.tmp 53) (.tmp 57) (by kernel_rfl) (T4) (t5) T5 (by kernel_rfl) (by kernel_rfl) HC5.out.1 HC5.out.2.1 HC5.out.2.2) ?_
  refine held_free 18 (.string T5) rfl (by kernel_rfl) (by kernel_rfl) (by kernel_rfl) (by kernel_rfl) B4 (fun _ _ => by kernel_rfl) ?_
  refine held_end (by kernel_rfl) ?_
  obtain ⟨V3, hV⟩ : ∃ V, V = W4 := ⟨_, rfl⟩
  rw [← hV] at B4 ⊢
  clear hV
  have HX4 := Lib.hid (HX3.out.below B4 HX3.out.lt)
  have HB4 := Lib.hid (HB3.out.trans (B4.mono HB3.out.size))
  clear B4 HX3 HB3
  have c1 := HX4.out.cell 1
  have c4 := HX4.out.cell 4
  have c9 := HX4.out.cell 9
  simp only [List.getElem?_toArray, List.getElem?_cons_zero, List.getElem?_cons_succ] at c1 c4 c9
  go_wp2_with fail
  go_ret2
  exact ⟨by rw [HV2.out]; rfl, HB4.out⟩
set_option maxHeartbeats 2000000 in
set_option maxRecDepth 100000 in
theorem encR_ttt (fin : Bool) (la : Bool) (ack : Nat) (ld : Bool) (dsn : Nat) (ssn : Nat) (len : Nat) (sum : Nat) (hx : Ds.Ok (⟨fin, true, la, ack, true, ld, dsn, ssn, (len : Int), true, sum⟩ : Ds)) (hm : Ds.May (⟨fin, true, la, ack, true, ld, dsn, ssn, (len : Int), true, sum⟩ : Ds)) (w : World) :
    Calls Try.prog 11 #[.agg (dsv (⟨fin, true, la, ack, true, ld, dsn, ssn, (len : Int), true, sum⟩ : Ds))] w fun e w' => e = .returned (encV (⟨fin, true, la, ack, true, ld, dsn, ssn, (len : Int), true, sum⟩ : Ds)) ∧ Below w.heap.size w w' := by
  have HX0 := Lib.hid hx
  have HM := Lib.hid hm
  obtain ⟨V, hV⟩ : ∃ V, V = encV (⟨fin, true, la, ack, true, ld, dsn, ssn, (len : Int), true, sum⟩ : Ds) := ⟨_, rfl⟩
  rw [← hV]
  rw [encV_t _ hm] at hV
  have HVV := Lib.hid hV
  clear hx hm hV
  have hok := HX0.out
  have hm0 := HM.out
  have HR := Lib.hid (show ssn ≤ 4294967295 ∧ len ≤ 65535 ∧ sum ≤ 65535 from ⟨hok.ssn, by have q := hm0.2.2.2.2.2; simp only [] at q; omega, hok.sum⟩)
  have z0 : (⟨#[32]⟩ : ByteArray).size ≤ 1 := by decide
  have hm1' : 1 ≤ 1 ∧ 1 ≤ 1 := by omega
  obtain ⟨t1, ht1⟩ : ∃ t, txt (be 1 (Ds.bits (⟨fin, true, la, ack, true, ld, dsn, ssn, (len : Int), true, sum⟩ : Ds))) = t := ⟨_, rfl⟩
  have y1 : t1.size ≤ 1 := by rw [← ht1, txt_small]; omega
  obtain ⟨T1, hT1⟩ : ∃ T, T = (⟨#[32]⟩ : ByteArray) ++ t1 := ⟨_, rfl⟩
  have z1 : T1.size ≤ 2 := by rw [hT1, ByteArray.size_append]; omega
  have HN1 := Lib.hid (show (Ds.bits (⟨fin, true, la, ack, true, ld, dsn, ssn, (len : Int), true, sum⟩ : Ds)) ≤ 18446744073709551615 ∧ 1 ≤ 1 ∧ 1 ≤ 8 from ⟨by have := Ds.bits_lt (⟨fin, true, la, ack, true, ld, dsn, ssn, (len : Int), true, sum⟩ : Ds); omega, hm1'.1, by omega⟩)
  have HT1 := Lib.hid ht1
  have HC1 := Lib.hid (show ((⟨#[32]⟩ : ByteArray).size : Int) ≤ 8388608 ∧ (t1.size : Int) ≤ 8388608 ∧ T1 = (⟨#[32]⟩ : ByteArray) ++ t1 from ⟨by omega, by omega, hT1⟩)
  have hm2' : 1 ≤ (wA true la) ∧ (wA true la) ≤ 8 := by cases la <;> decide
  obtain ⟨t2, ht2⟩ : ∃ t, txt (be (wA true la) ack) = t := ⟨_, rfl⟩
  have y2 : t2.size ≤ 8 := by rw [← ht2, txt_small]; omega
  obtain ⟨T2, hT2⟩ : ∃ T, T = T1 ++ t2 := ⟨_, rfl⟩
  have z2 : T2.size ≤ 10 := by rw [hT2, ByteArray.size_append]; omega
  have HN2 := Lib.hid (show ack ≤ 18446744073709551615 ∧ 1 ≤ (wA true la) ∧ (wA true la) ≤ 8 from ⟨hok.ack, hm2'.1, by omega⟩)
  have HT2 := Lib.hid ht2
  have HC2 := Lib.hid (show (T1.size : Int) ≤ 8388608 ∧ (t2.size : Int) ≤ 8388608 ∧ T2 = T1 ++ t2 from ⟨by omega, by omega, hT2⟩)
  have hm3' : 1 ≤ (wA true ld) ∧ (wA true ld) ≤ 8 := by cases ld <;> decide
  obtain ⟨t3, ht3⟩ : ∃ t, txt (be (wA true ld) dsn) = t := ⟨_, rfl⟩
  have y3 : t3.size ≤ 8 := by rw [← ht3, txt_small]; omega
  obtain ⟨T3, hT3⟩ : ∃ T, T = T2 ++ t3 := ⟨_, rfl⟩
  have z3 : T3.size ≤ 18 := by rw [hT3, ByteArray.size_append]; omega
  have HN3 := Lib.hid (show dsn ≤ 18446744073709551615 ∧ 1 ≤ (wA true ld) ∧ (wA true ld) ≤ 8 from ⟨hok.dsn, hm3'.1, by omega⟩)
  have HT3 := Lib.hid ht3
  have HC3 := Lib.hid (show (T2.size : Int) ≤ 8388608 ∧ (t3.size : Int) ≤ 8388608 ∧ T3 = T2 ++ t3 from ⟨by omega, by omega, hT3⟩)
  have hm4' : 1 ≤ 4 ∧ 4 ≤ 4 := by omega
  obtain ⟨t4, ht4⟩ : ∃ t, txt (be 4 ssn) = t := ⟨_, rfl⟩
  have y4 : t4.size ≤ 4 := by rw [← ht4, txt_small]; omega
  obtain ⟨T4, hT4⟩ : ∃ T, T = T3 ++ t4 := ⟨_, rfl⟩
  have z4 : T4.size ≤ 22 := by rw [hT4, ByteArray.size_append]; omega
  have HN4 := Lib.hid (show ssn ≤ 18446744073709551615 ∧ 1 ≤ 4 ∧ 4 ≤ 8 from ⟨by have := hok.ssn; simp only [] at this; omega, hm4'.1, by omega⟩)
  have HT4 := Lib.hid ht4
  have HC4 := Lib.hid (show (T3.size : Int) ≤ 8388608 ∧ (t4.size : Int) ≤ 8388608 ∧ T4 = T3 ++ t4 from ⟨by omega, by omega, hT4⟩)
  have hm5' : 1 ≤ 2 ∧ 2 ≤ 2 := by omega
  obtain ⟨t5, ht5⟩ : ∃ t, txt (be 2 len) = t := ⟨_, rfl⟩
  have y5 : t5.size ≤ 2 := by rw [← ht5, txt_small]; omega
  obtain ⟨T5, hT5⟩ : ∃ T, T = T4 ++ t5 := ⟨_, rfl⟩
  have z5 : T5.size ≤ 24 := by rw [hT5, ByteArray.size_append]; omega
  have HN5 := Lib.hid (show len ≤ 18446744073709551615 ∧ 1 ≤ 2 ∧ 2 ≤ 8 from ⟨by have := HR.out; omega, hm5'.1, by omega⟩)
  have HT5 := Lib.hid ht5
  have HC5 := Lib.hid (show (T4.size : Int) ≤ 8388608 ∧ (t5.size : Int) ≤ 8388608 ∧ T5 = T4 ++ t5 from ⟨by omega, by omega, hT5⟩)
  have hm6' : 1 ≤ 2 ∧ 2 ≤ 2 := by omega
  obtain ⟨t6, ht6⟩ : ∃ t, txt (be 2 sum) = t := ⟨_, rfl⟩
  have y6 : t6.size ≤ 2 := by rw [← ht6, txt_small]; omega
  obtain ⟨T6, hT6⟩ : ∃ T, T = T5 ++ t6 := ⟨_, rfl⟩
  have z6 : T6.size ≤ 26 := by rw [hT6, ByteArray.size_append]; omega
  have HN6 := Lib.hid (show sum ≤ 18446744073709551615 ∧ 1 ≤ 2 ∧ 2 ≤ 8 from ⟨by have := hok.sum; simp only [] at this; omega, hm6'.1, by omega⟩)
  have HT6 := Lib.hid ht6
  have HC6 := Lib.hid (show (T5.size : Int) ≤ 8388608 ∧ (t6.size : Int) ≤ 8388608 ∧ T6 = T5 ++ t6 from ⟨by omega, by omega, hT6⟩)
  have hTb : T6 = txt (Ds.body (⟨fin, true, la, ack, true, ld, dsn, ssn, (len : Int), true, sum⟩ : Ds)) := by
    rw [hT6, hT5, hT4, hT3, hT2, hT1, ← ht1, ← ht2, ← ht3, ← ht4, ← ht5, ← ht6, show (⟨#[32]⟩ : ByteArray) = txt [32] from rfl]
    simp only [txt_app]
    simp [Ds.body, Ds.rest, w4, w2, wA, be]
  have HV2 := Lib.hid (show V = .tuple #[.string T6, .int .i64 0] by rw [HVV.out, hTb])
  obtain ⟨b0, hb0⟩ : ∃ b, b = w.heap.size := ⟨_, rfl⟩
  have hx0 : Blk (w.alloc (.cells (dsv (⟨fin, true, la, ack, true, ld, dsn, ssn, (len : Int), true, sum⟩ : Ds)) 26)) b0 26 (dsv (⟨fin, true, la, ack, true, ld, dsn, ssn, (len : Int), true, sum⟩ : Ds)) := by rw [hb0]; exact Blk.new _ _ _
  have hlt : b0 < (w.alloc (.cells (dsv (⟨fin, true, la, ack, true, ld, dsn, ssn, (len : Int), true, sum⟩ : Ds)) 26)).heap.size := hx0.lt
  have HB := Lib.hid ((Below.refl _ w).alloc (Nat.le_refl _) (.cells (dsv (⟨fin, true, la, ack, true, ld, dsn, ssn, (len : Int), true, sum⟩ : Ds)) 26))
  have HXW := Lib.hid hx0
  have HBE := Lib.hid hb0
  clear hok hm0 hx0 hlt hb0 z0 hTb hm1' ht1 y1 hT1 z1 hm2' ht2 y2 hT2 z2 hm3' ht3 y3 hT3 z3 hm4' ht4 y4 hT4 z4 hm5' ht5 y5 hT5 z5 hm6' ht6 y6 hT6 z6
  go_enter Try.func11, Try.ntmps11
  go_wp2_with (refine wpList_load_row rfl 26 _ rfl w.heap.size rfl 26 (dsv (⟨fin, true, la, ack, true, ld, dsn, ssn, (len : Int), true, sum⟩ : Ds)) (0, 0) _ ?_ Try.underlying26 rfl ds_size ?_; have q := HXW.out; rw [HBE.out] at q; exact q)
  refine (MayR_any (⟨fin, true, la, ack, true, ld, dsn, ssn, (len : Int), true, sum⟩ : Ds) _).mono ?_
  rintro e V0 ⟨rfl, b⟩
  rw [decide_eq_true HM.out]
  have HX1 := Lib.hid (HXW.out.below b HXW.out.lt)
  have HB1 := Lib.hid (HB.out.trans (b.mono HB.out.size))
  clear b HXW HB
  go_upto_region 3 with fail
  rw [← HBE.out]
  have B0 : Below V0.heap.size V0 V0.drew := (Below.refl _ V0).drew
  refine held_start (fun W => Below V0.heap.size V0 W) (by kernel_rfl) (n := 22) rfl ?_
  obtain ⟨W0, hW0⟩ : ∃ W0, W0 = V0.drew := ⟨_, rfl⟩
  rw [← hW0] at B0 ⊢
  clear hW0
  refine held_free 0 (.pointer (some ⟨b0, 1, none⟩)) rfl (by kernel_rfl) (by kernel_rfl) (by kernel_rfl) (by kernel_rfl) B0 (fun _ _ => ex_field (v := .pointer (some ⟨b0, 0, none⟩)) 26 (.tmp 1) 1 (by kernel_rfl) (by kernel_rfl) (by kernel_rfl)) ?_
  refine held_free 1 (.bool true) rfl (by kernel_rfl) (by kernel_rfl) (by kernel_rfl) (by kernel_rfl) B0 (fun W b => ex_load 4 (.tmp 8) (by kernel_rfl) ⟨b0, 1, none⟩ (by kernel_rfl) (by kernel_rfl) ((HX1.out.below b HX1.out.lt).cell 1)) ?_
  refine held_free 3 (.pointer (some ⟨b0, 2, none⟩)) rfl (by kernel_rfl) (by kernel_rfl) (by kernel_rfl) (by kernel_rfl) B0 (fun _ _ => ex_field (v := .pointer (some ⟨b0, 0, none⟩)) 26 (.tmp 1) 2 (by kernel_rfl) (by kernel_rfl) (by kernel_rfl)) ?_
  refine held_free 4 (.bool la) rfl (by kernel_rfl) (by kernel_rfl) (by kernel_rfl) (by kernel_rfl) B0 (fun W b => ex_load 4 (.tmp 11) (by kernel_rfl) ⟨b0, 2, none⟩ (by kernel_rfl) (by kernel_rfl) ((HX1.out.below b HX1.out.lt).cell 2)) ?_
  refine held_free 7 (.pointer (some ⟨b0, 4, none⟩)) rfl (by kernel_rfl) (by kernel_rfl) (by kernel_rfl) (by kernel_rfl) B0 (fun _ _ => ex_field (v := .pointer (some ⟨b0, 0, none⟩)) 26 (.tmp 1) 4 (by kernel_rfl) (by kernel_rfl) (by kernel_rfl)) ?_
  refine held_free 8 (.bool true) rfl (by kernel_rfl) (by kernel_rfl) (by kernel_rfl) (by kernel_rfl) B0 (fun W b => ex_load 4 (.tmp 15) (by kernel_rfl) ⟨b0, 4, none⟩ (by kernel_rfl) (by kernel_rfl) ((HX1.out.below b HX1.out.lt).cell 4)) ?_
  refine held_free 11 (.pointer (some ⟨b0, 5, none⟩)) rfl (by kernel_rfl) (by kernel_rfl) (by kernel_rfl) (by kernel_rfl) B0 (fun _ _ => ex_field (v := .pointer (some ⟨b0, 0, none⟩)) 26 (.tmp 1) 5 (by kernel_rfl) (by kernel_rfl) (by kernel_rfl)) ?_
  refine held_free 12 (.bool ld) rfl (by kernel_rfl) (by kernel_rfl) (by kernel_rfl) (by kernel_rfl) B0 (fun W b => ex_load 4 (.tmp 19) (by kernel_rfl) ⟨b0, 5, none⟩ (by kernel_rfl) (by kernel_rfl) ((HX1.out.below b HX1.out.lt).cell 5)) ?_
  refine held_free 15 (.pointer (some ⟨b0, 0, none⟩)) rfl (by kernel_rfl) (by kernel_rfl) (by kernel_rfl) (by kernel_rfl) B0 (fun _ _ => ex_field (v := .pointer (some ⟨b0, 0, none⟩)) 26 (.tmp 1) 0 (by kernel_rfl) (by kernel_rfl) (by kernel_rfl)) ?_
  refine held_free 16 (.bool fin) rfl (by kernel_rfl) (by kernel_rfl) (by kernel_rfl) (by kernel_rfl) B0 (fun W b => ex_load 4 (.tmp 23) (by kernel_rfl) ⟨b0, 0, none⟩ (by kernel_rfl) (by kernel_rfl) ((HX1.out.below b HX1.out.lt).cell 0)) ?_
  refine held_call 2 rfl (by kernel_rfl) (by kernel_rfl) (by kernel_rfl) (bitR_b true 1 _) (fun w' h => bel_in B0 h) ?_
  intro W1 hW1
  have B1 := bel_in B0 hW1
  clear hW1 B0
  refine held_call 5 rfl (by kernel_rfl) (by kernel_rfl) (by kernel_rfl) (bitR_b la 2 _) (fun w' h => bel_in B1 h) ?_
  intro W2 hW2
  have B2 := bel_in B1 hW2
  clear hW2 B1
  refine held_free 6 (.int .u64 ((bitN true 1 + bitN la 2 : Nat) : Int)) rfl (by kernel_rfl) (by kernel_rfl) (by kernel_rfl) (by kernel_rfl) B2 (fun _ _ => ex_add64 22 22 (.tmp 10) (.tmp 13) (by kernel_rfl) (bitN true 1) (bitN la 2) (by kernel_rfl) (by kernel_rfl) (by kernel_rfl) (by have := bitN_le true 1; have := bitN_le la 2; have := bitN_le true 4; have := bitN_le ld 8; have := bitN_le fin 16; omega)) ?_
  refine held_call 9 rfl (by kernel_rfl) (by kernel_rfl) (by kernel_rfl) (bitR_b true 4 _) (fun w' h => bel_in B2 h) ?_
  intro W3 hW3
  have B3 := bel_in B2 hW3
  clear hW3 B2
  refine held_free 10 (.int .u64 ((bitN true 1 + bitN la 2 + bitN true 4 : Nat) : Int)) rfl (by kernel_rfl) (by kernel_rfl) (by kernel_rfl) (by kernel_rfl) B3 (fun _ _ => ex_add64 22 22 (.tmp 14) (.tmp 17) (by kernel_rfl) (bitN true 1 + bitN la 2) (bitN true 4) (by kernel_rfl) (by kernel_rfl) (by kernel_rfl) (by have := bitN_le true 1; have := bitN_le la 2; have := bitN_le true 4; have := bitN_le ld 8; have := bitN_le fin 16; omega)) ?_
  refine held_call 13 rfl (by kernel_rfl) (by kernel_rfl) (by kernel_rfl) (bitR_b ld 8 _) (fun w' h => bel_in B3 h) ?_
  intro W4 hW4
  have B4 := bel_in B3 hW4
  clear hW4 B3
  refine held_free 14 (.int .u64 ((bitN true 1 + bitN la 2 + bitN true 4 + bitN ld 8 : Nat) : Int)) rfl (by kernel_rfl) (by kernel_rfl) (by kernel_rfl) (by kernel_rfl) B4 (fun _ _ => ex_add64 22 22 (.tmp 18) (.tmp 21) (by kernel_rfl) (bitN true 1 + bitN la 2 + bitN true 4) (bitN ld 8) (by kernel_rfl) (by kernel_rfl) (by kernel_rfl) (by have := bitN_le true 1; have := bitN_le la 2; have := bitN_le true 4; have := bitN_le ld 8; have := bitN_le fin 16; omega)) ?_
  refine held_call 17 rfl (by kernel_rfl) (by kernel_rfl) (by kernel_rfl) (bitR_b fin 16 _) (fun w' h => bel_in B4 h) ?_
  intro W5 hW5
  have B5 := bel_in B4 hW5
  clear hW5 B4
  refine held_free 18 (.int .u64 ((bitN true 1 + bitN la 2 + bitN true 4 + bitN ld 8 + bitN fin 16 : Nat) : Int)) rfl (by kernel_rfl) (by kernel_rfl) (by kernel_rfl) (by kernel_rfl) B5 (fun _ _ => ex_add64 22 22 (.tmp 22) (.tmp 25) (by kernel_rfl) (bitN true 1 + bitN la 2 + bitN true 4 + bitN ld 8) (bitN fin 16) (by kernel_rfl) (by kernel_rfl) (by kernel_rfl) (by have := bitN_le true 1; have := bitN_le la 2; have := bitN_le true 4; have := bitN_le ld 8; have := bitN_le fin 16; omega)) ?_
  refine held_call 19 rfl (by kernel_rfl) (by kernel_rfl) (by kernel_rfl) (Laid_t (bitN true 1 + bitN la 2 + bitN true 4 + bitN ld 8 + bitN fin 16) (1) t1 _ HN1.out.1 HN1.out.2.1 HN1.out.2.2 HT1.out) (fun w' h => bel_in B5 h) ?_
  intro W6 hW6
  have B6 := bel_in B5 hW6
  clear hW6 B5
  refine held_free 20 (.string T1) rfl (by kernel_rfl) (by kernel_rfl) (by kernel_rfl) (by kernel_rfl) B6 (fun _ _ => ex_strcat 9 9 (.const (.string ⟨#[32]⟩)) (.tmp 27) (by kernel_rfl) (⟨#[32]⟩) (t1) T1 (by kernel_rfl) (by kernel_rfl) HC1.out.1 HC1.out.2.1 HC1.out.2.2) ?_
  refine held_free 21 (.string T1) rfl (by kernel_rfl) (by kernel_rfl) (by kernel_rfl) (by kernel_rfl) B6 (fun _ _ => by kernel_rfl) ?_
  refine held_end (by kernel_rfl) ?_
  obtain ⟨V1, hV⟩ : ∃ V, V = W6 := ⟨_, rfl⟩
  rw [← hV] at B6 ⊢
  clear hV
  have HX2 := Lib.hid (HX1.out.below B6 HX1.out.lt)
  have HB2 := Lib.hid (HB1.out.trans (B6.mono HB1.out.size))
  clear B6 HX1 HB1
  have c1 := HX2.out.cell 1
  have c4 := HX2.out.cell 4
  have c9 := HX2.out.cell 9
  have c10 := HX2.out.cell 10
  simp only [List.getElem?_toArray, List.getElem?_cons_zero, List.getElem?_cons_succ] at c1 c4 c9 c10
  go_upto_region 5 with fail
  clear c1 c4 c9 c10
  have B0 : Below V1.heap.size V1 V1.drew := (Below.refl _ V1).drew
  refine held_start (fun W => Below V1.heap.size V1 W) (by kernel_rfl) (n := 9) rfl ?_
  obtain ⟨W0, hW0⟩ : ∃ W0, W0 = V1.drew := ⟨_, rfl⟩
  rw [← hW0] at B0 ⊢
  clear hW0
  refine held_free 0 (.string T1) rfl (by kernel_rfl) (by kernel_rfl) (by kernel_rfl) (by kernel_rfl) B0 (fun _ _ => by kernel_rfl) ?_
  refine held_free 1 (.pointer (some ⟨b0, 3, none⟩)) rfl (by kernel_rfl) (by kernel_rfl) (by kernel_rfl) (by kernel_rfl) B0 (fun _ _ => ex_field (v := .pointer (some ⟨b0, 0, none⟩)) 26 (.tmp 1) 3 (by kernel_rfl) (by kernel_rfl) (by kernel_rfl)) ?_
  refine held_free 2 (.int .u64 (ack : Int)) rfl (by kernel_rfl) (by kernel_rfl) (by kernel_rfl) (by kernel_rfl) B0 (fun W b => ex_load 22 (.tmp 32) (by kernel_rfl) ⟨b0, 3, none⟩ (by kernel_rfl) (by kernel_rfl) ((HX2.out.below b HX2.out.lt).cell 3)) ?_
  refine held_free 3 (.pointer (some ⟨b0, 2, none⟩)) rfl (by kernel_rfl) (by kernel_rfl) (by kernel_rfl) (by kernel_rfl) B0 (fun _ _ => ex_field (v := .pointer (some ⟨b0, 0, none⟩)) 26 (.tmp 1) 2 (by kernel_rfl) (by kernel_rfl) (by kernel_rfl)) ?_
  refine held_free 4 (.bool la) rfl (by kernel_rfl) (by kernel_rfl) (by kernel_rfl) (by kernel_rfl) B0 (fun W b => ex_load 4 (.tmp 34) (by kernel_rfl) ⟨b0, 2, none⟩ (by kernel_rfl) (by kernel_rfl) ((HX2.out.below b HX2.out.lt).cell 2)) ?_
  refine held_call 5 rfl (by kernel_rfl) (by kernel_rfl) (by kernel_rfl) (wideR_b la _) (fun w' h => bel_in B0 h) ?_
  intro W1 hW1
  have B1 := bel_in B0 hW1
  clear hW1 B0
  refine held_call 6 rfl (by kernel_rfl) (by kernel_rfl) (by kernel_rfl) (Laid_t (ack) (wA true la) t2 _ HN2.out.1 HN2.out.2.1 HN2.out.2.2 HT2.out) (fun w' h => bel_in B1 h) ?_
  intro W2 hW2
  have B2 := bel_in B1 hW2
  clear hW2 B1
  refine held_free 7 (.string T2) rfl (by kernel_rfl) (by kernel_rfl) (by kernel_rfl) (by kernel_rfl) B2 (fun _ _ => ex_strcat 9 9 (.tmp 31) (.tmp 37) (by kernel_rfl) (T1) (t2) T2 (by kernel_rfl) (by kernel_rfl) HC2.out.1 HC2.out.2.1 HC2.out.2.2) ?_
  refine held_free 8 (.string T2) rfl (by kernel_rfl) (by kernel_rfl) (by kernel_rfl) (by kernel_rfl) B2 (fun _ _ => by kernel_rfl) ?_
  refine held_end (by kernel_rfl) ?_
  obtain ⟨V2, hV⟩ : ∃ V, V = W2 := ⟨_, rfl⟩
  rw [← hV] at B2 ⊢
  clear hV
  have HX3 := Lib.hid (HX2.out.below B2 HX2.out.lt)
  have HB3 := Lib.hid (HB2.out.trans (B2.mono HB2.out.size))
  clear B2 HX2 HB2
  have c1 := HX3.out.cell 1
  have c4 := HX3.out.cell 4
  have c9 := HX3.out.cell 9
  have c10 := HX3.out.cell 10
  simp only [List.getElem?_toArray, List.getElem?_cons_zero, List.getElem?_cons_succ] at c1 c4 c9 c10
  go_upto_region 7 with fail
  clear c1 c4 c9 c10
  have B0 : Below V2.heap.size V2 V2.drew := (Below.refl _ V2).drew
  refine held_start (fun W => Below V2.heap.size V2 W) (by kernel_rfl) (n := 19) rfl ?_
  obtain ⟨W0, hW0⟩ : ∃ W0, W0 = V2.drew := ⟨_, rfl⟩
  rw [← hW0] at B0 ⊢
  clear hW0
  refine held_free 0 (.string T2) rfl (by kernel_rfl) (by kernel_rfl) (by kernel_rfl) (by kernel_rfl) B0 (fun _ _ => by kernel_rfl) ?_
  refine held_free 1 (.pointer (some ⟨b0, 6, none⟩)) rfl (by kernel_rfl) (by kernel_rfl) (by kernel_rfl) (by kernel_rfl) B0 (fun _ _ => ex_field (v := .pointer (some ⟨b0, 0, none⟩)) 26 (.tmp 1) 6 (by kernel_rfl) (by kernel_rfl) (by kernel_rfl)) ?_
  refine held_free 2 (.int .u64 (dsn : Int)) rfl (by kernel_rfl) (by kernel_rfl) (by kernel_rfl) (by kernel_rfl) B0 (fun W b => ex_load 22 (.tmp 42) (by kernel_rfl) ⟨b0, 6, none⟩ (by kernel_rfl) (by kernel_rfl) ((HX3.out.below b HX3.out.lt).cell 6)) ?_
  refine held_free 3 (.pointer (some ⟨b0, 5, none⟩)) rfl (by kernel_rfl) (by kernel_rfl) (by kernel_rfl) (by kernel_rfl) B0 (fun _ _ => ex_field (v := .pointer (some ⟨b0, 0, none⟩)) 26 (.tmp 1) 5 (by kernel_rfl) (by kernel_rfl) (by kernel_rfl)) ?_
  refine held_free 4 (.bool ld) rfl (by kernel_rfl) (by kernel_rfl) (by kernel_rfl) (by kernel_rfl) B0 (fun W b => ex_load 4 (.tmp 44) (by kernel_rfl) ⟨b0, 5, none⟩ (by kernel_rfl) (by kernel_rfl) ((HX3.out.below b HX3.out.lt).cell 5)) ?_
  refine held_free 8 (.pointer (some ⟨b0, 7, none⟩)) rfl (by kernel_rfl) (by kernel_rfl) (by kernel_rfl) (by kernel_rfl) B0 (fun _ _ => ex_field (v := .pointer (some ⟨b0, 0, none⟩)) 26 (.tmp 1) 7 (by kernel_rfl) (by kernel_rfl) (by kernel_rfl)) ?_
  refine held_free 9 (.int .u32 (ssn : Int)) rfl (by kernel_rfl) (by kernel_rfl) (by kernel_rfl) (by kernel_rfl) B0 (fun W b => ex_load 23 (.tmp 49) (by kernel_rfl) ⟨b0, 7, none⟩ (by kernel_rfl) (by kernel_rfl) ((HX3.out.below b HX3.out.lt).cell 7)) ?_
  refine held_free 10 (.int .u64 (ssn : Int)) rfl (by kernel_rfl) (by kernel_rfl) (by kernel_rfl) (by kernel_rfl) B0 (fun W _ => ex_convert_to (v := .int .u32 (ssn : Int)) 23 22 (.tmp 50) (by kernel_rfl) (by kernel_rfl) (conv_w _ _ .u32 .u64 (ssn : Int) (ssn : Int) (by kernel_rfl) (by kernel_rfl) (by kernel_rfl) (by rw [IntKind.wrap_u64]; have := HR.out; omega) W)) ?_
  refine held_free 13 (.pointer (some ⟨b0, 8, none⟩)) rfl (by kernel_rfl) (by kernel_rfl) (by kernel_rfl) (by kernel_rfl) B0 (fun _ _ => ex_field (v := .pointer (some ⟨b0, 0, none⟩)) 26 (.tmp 1) 8 (by kernel_rfl) (by kernel_rfl) (by kernel_rfl)) ?_
  refine held_free 14 (.int .i64 (len : Int)) rfl (by kernel_rfl) (by kernel_rfl) (by kernel_rfl) (by kernel_rfl) B0 (fun W b => ex_load 3 (.tmp 54) (by kernel_rfl) ⟨b0, 8, none⟩ (by kernel_rfl) (by kernel_rfl) ((HX3.out.below b HX3.out.lt).cell 8)) ?_
  refine held_free 15 (.int .u64 (len : Int)) rfl (by kernel_rfl) (by kernel_rfl) (by kernel_rfl) (by kernel_rfl) B0 (fun W _ => ex_convert_to (v := .int .i64 (len : Int)) 3 22 (.tmp 55) (by kernel_rfl) (by kernel_rfl) (conv_w _ _ .i64 .u64 (len : Int) (len : Int) (by kernel_rfl) (by kernel_rfl) (by kernel_rfl) (by rw [IntKind.wrap_u64]; have := HR.out; omega) W)) ?_
  refine held_call 5 rfl (by kernel_rfl) (by kernel_rfl) (by kernel_rfl) (wideR_b ld _) (fun w' h => bel_in B0 h) ?_
  intro W1 hW1
  have B1 := bel_in B0 hW1
  clear hW1 B0
  refine held_call 6 rfl (by kernel_rfl) (by kernel_rfl) (by kernel_rfl) (Laid_t (dsn) (wA true ld) t3 _ HN3.out.1 HN3.out.2.1 HN3.out.2.2 HT3.out) (fun w' h => bel_in B1 h) ?_
  intro W2 hW2
  have B2 := bel_in B1 hW2
  clear hW2 B1
  refine held_free 7 (.string T3) rfl (by kernel_rfl) (by kernel_rfl) (by kernel_rfl) (by kernel_rfl) B2 (fun _ _ => ex_strcat 9 9 (.tmp 41) (.tmp 47) (by kernel_rfl) (T2) (t3) T3 (by kernel_rfl) (by kernel_rfl) HC3.out.1 HC3.out.2.1 HC3.out.2.2) ?_
  refine held_call 11 rfl (by kernel_rfl) (by kernel_rfl) (by kernel_rfl) (Laid_t (ssn) (4) t4 _ HN4.out.1 HN4.out.2.1 HN4.out.2.2 HT4.out) (fun w' h => bel_in B2 h) ?_
  intro W3 hW3
  have B3 := bel_in B2 hW3
  clear hW3 B2
  refine held_free 12 (.string T4) rfl (by kernel_rfl) (by kernel_rfl) (by kernel_rfl) (by kernel_rfl) B3 (fun _ _ => ex_strcat 9 9 (.tmp 48) (.tmp 52) (by kernel_rfl) (T3) (t4) T4 (by kernel_rfl) (by kernel_rfl) HC4.out.1 HC4.out.2.1 HC4.out.2.2) ?_
  refine held_call 16 rfl (by kernel_rfl) (by kernel_rfl) (by kernel_rfl) (Laid_t (len) (2) t5 _ HN5.out.1 HN5.out.2.1 HN5.out.2.2 HT5.out) (fun w' h => bel_in B3 h) ?_
  intro W4 hW4
  have B4 := bel_in B3 hW4
  clear hW4 B3
  refine held_free 17 (.string T5) rfl (by kernel_rfl) (by kernel_rfl) (by kernel_rfl) (by kernel_rfl) B4 (fun _ _ => ex_strcat 9 9 (.tmp 53) (.tmp 57) (by kernel_rfl) (T4) (t5) T5 (by kernel_rfl) (by kernel_rfl) HC5.out.1 HC5.out.2.1 HC5.out.2.2) ?_
  refine held_free 18 (.string T5) rfl (by kernel_rfl) (by kernel_rfl) (by kernel_rfl) (by kernel_rfl) B4 (fun _ _ => by kernel_rfl) ?_
  refine held_end (by kernel_rfl) ?_
  obtain ⟨V3, hV⟩ : ∃ V, V = W4 := ⟨_, rfl⟩
  rw [← hV] at B4 ⊢
  clear hV
  have HX4 := Lib.hid (HX3.out.below B4 HX3.out.lt)
  have HB4 := Lib.hid (HB3.out.trans (B4.mono HB3.out.size))
  clear B4 HX3 HB3
  have c1 := HX4.out.cell 1
  have c4 := HX4.out.cell 4
  have c9 := HX4.out.cell 9
  have c10 := HX4.out.cell 10
  simp only [List.getElem?_toArray, List.getElem?_cons_zero, List.getElem?_cons_succ] at c1 c4 c9 c10
  have hsw : IntKind.u64.wrap (sum : Int) = (sum : Int) := by rw [IntKind.wrap_u64]; have := HR.out; omega
  have hsw' : (sum : Int) % 18446744073709551616 = (sum : Int) := by have := HR.out; omega
  go_wp2_with fail
  refine (Laid_t sum 2 t6 _ HN6.out.1 HN6.out.2.1 HN6.out.2.2 HT6.out).mono ?_
  rintro e Vz ⟨rfl, b⟩
  have HBZ := Lib.hid (HB4.out.trans (b.mono HB4.out.size))
  clear b c1 c4 c9 c10
  have hcat := run_string_add (P := Try.prog) Vz T5 t6 HC6.out.1 HC6.out.2.1
  rw [← HC6.out.2.2] at hcat
  go_wp2_with fail
  go_ret2
  exact ⟨by rw [HV2.out]; rfl, HBZ.out⟩
set_option maxRecDepth 100000 in
theorem EncodeR_any (x : Ds) (hx : x.Ok) (w : World) :
    Calls Try.prog 11 #[.agg (dsv x)] w fun e w' => e = .returned (encV x) ∧ Below w.heap.size w w' := by
  by_cases hm : x.May
  · obtain ⟨fin, ha, la, ack, hmp, ld, dsn, ssn, len, hs, sum⟩ := x
    obtain ⟨n, hn⟩ : ∃ n : Nat, len = (n : Int) := ⟨len.toNat, by have := hm.2.2.2.2.1; simp only [] at this; omega⟩
    subst hn
    cases hmp
    · have h1 := hm.2.1.2.1 rfl
      have h0 := hm.1
      simp only [] at h0 h1
      obtain ⟨_, _, _, _, _, h2⟩ := h1
      subst h2
      cases ha
      · rcases h0 with h | h <;> cases h
      · exact encR_tff fin la ack ld dsn ssn n sum hx hm w
    · cases ha <;> cases hs
      · exact encR_ftf fin la ack ld dsn ssn n sum hx hm w
      · exact encR_ftt fin la ack ld dsn ssn n sum hx hm w
      · exact encR_ttf fin la ack ld dsn ssn n sum hx hm w
      · exact encR_ttt fin la ack ld dsn ssn n sum hx hm w
  · rw [encV_f x hm]
    have HC := Lib.hid (Blk.new w 26 (dsv x))
    have HB := Lib.hid ((Below.refl _ w).alloc (Nat.le_refl _) (.cells (dsv x) 26))
    have HM := Lib.hid hm
    clear hm hx
    go_enter Try.func11, Try.ntmps11
    go_wp2_with (refine wpList_load_row rfl 26 _ rfl w.heap.size rfl 26 (dsv x) (0, 0) _ ?_ Try.underlying26 rfl ds_size ?_; exact HC.out)
    refine (MayR_any x _).mono ?_
    rintro e W0 ⟨rfl, b⟩
    rw [decide_eq_false HM.out]
    have HB0 := Lib.hid (HB.out.trans (b.mono HB.out.size))
    clear b
    go_wp2_with fail
    go_ret2
    exact ⟨rfl, HB0.out⟩
end Go.Proofs.Ytdhkjhkgjfcolaa
