/-
  AddrPasses returns true for all drafts, texts and bytes. No conditions.
-/
import Derived.Test.YtcofdiamlmlhfaaAddrMore
import Derived.WalkKit
import Derived.ProofKit
import Derived.OpenShut
import Derived.ShutString
import Derived.ChangeOld
import Derived.Below
import Derived.SizedLaws
namespace Go.Proofs.Ytcofdiamlmlhfaa.addrPasses
open Go.ChangeShapes Go.WideShapes Go.ChangeAt Go.RowKit
open Go.ChangeMaps (open_string shut_string)
set_option linter.unusedVariables false

/-- A front of a text with a zero behind it, 37 bytes at most. -/
theorem front_ids (s : ByteArray) : ∃ (m : Nat) (z : ByteArray), z = (s ++ ⟨#[0]⟩).extract 0 m ∧ z.size = m ∧ min ((s.size : Int) + 1) 37 = (m : Int) ∧ (m : Int) ≤ (s ++ ⟨#[0]⟩ : ByteArray).size ∧ 1 ≤ m ∧ m ≤ 37 := by
  have hs : (s ++ ⟨#[0]⟩ : ByteArray).size = s.size + 1 := by rw [ByteArray.size_append]; rfl
  refine ⟨min (s.size + 1) 37, _, rfl, ?_, ?_, ?_, ?_, ?_⟩
  · rw [ByteArray.size_extract]; omega
  · omega
  · omega
  · omega
  · omega
/-- The first byte, bits of it turned that are passed over. -/
theorem turn_a : ∀ (e : Bool) (b : _root_.Fin 256), bits .xor .u8 (fst e : Int) (bits .and .u8 (b.val : Int) 14) = ((fst e ^^^ (b.val &&& 14) : Nat) : Int) ∧ (fst e ^^^ (b.val &&& 14)) < 256 ∧ (fst e ^^^ (b.val &&& 14)) / 16 = 3 ∧ odd (fst e ^^^ (b.val &&& 14)) = e := by decide +kernel
theorem turn_r : ∀ (b : _root_.Fin 256), bits .xor .u8 64 (bits .and .u8 (b.val : Int) 15) = ((64 ^^^ (b.val &&& 15) : Nat) : Int) ∧ (64 ^^^ (b.val &&& 15)) < 256 ∧ (64 ^^^ (b.val &&& 15)) / 16 = 4 := by decide +kernel
theorem ex_strcat_s {ρ : Operand → Value} {o : Oper} {w : World} (t u : TypeId) (x y : Operand) (ho : o.op = .binOp .add t x y u) (a b c : ByteArray) (hx : ρ x = .string a) (hy : ρ y = .string b) (hz : a.size + b.size ≤ 9223372036854775807) (h : c = a ++ b) :
    (execOp ρ o).run Try.prog w = .ok (.value (.string c)) w := by
  subst h
  unfold execOp
  rw [ho]
  have hr := run_string_add_sum (P := Try.prog) w a b hz
  simp [hx, hy, eqGuard, Go.binOp, hr]
theorem byte_built (c : Int) (w : World) : (Instr.buildSlice 38 1 #[(0, .int .u8 c)]).run Try.prog w = .ok (.slice (some ⟨w.heap.size, 0, none⟩) 1 1) (w.alloc (.cells #[.int .u8 c] 5)) := by
  have hi := info8
  cases hq : Try.prog.info? 5 with
  | none => simp [hq] at hi
  | some ie =>
    simp [hq] at hi
    obtain ⟨hz, s1, _⟩ := hi
    have flat := Great.fill_flat [Value.int .u8 c] ((Array.range (1 * 1)).map ((Value.int .u8 0).cells[· % (Value.int .u8 0).cells.size]!)) (fun v hv => by obtain rfl := List.mem_singleton.1 hv; rfl) (by simp)
    exact run_buildSlice w _ _ 1 _ _ ie (.int .u8 0) (by kernel_rfl) hq hz (by rw [s1]; omega) (by rw [s1]; omega) (by rw [s1]; exact flat)
theorem ex_byte1 {ρ : Operand → Value} {o : Oper} {w : World} (x : Operand) (ho : o.op = .buildSlice 38 1 #[(0, x)]) (v : UInt8) (hx : ρ x = .int .u8 (v.toNat : Int)) :
    (execOp ρ o).run Try.prog w = .ok (.value (.slice (some ⟨w.heap.size, 0, none⟩) 1 1)) (w.alloc (.cells #[.int .u8 (v.toNat : Int)] 5)) := by
  have h := byte_built (v.toNat : Int) w
  unfold execOp
  rw [ho]
  simp [hx, h]
theorem one_txt (w : World) (g : Nat) (v : UInt8) (h : Blk w g 5 #[.int .u8 (v.toNat : Int)]) : (convert 38 9 (.slice (some ⟨g, 0, none⟩) 1 1)).run Try.prog w = .ok (.string (txt [v])) w := by
  refine bytes_text w g 1 1 [v] ⟨h.lt, fun j hj => ⟨?_, h.frozen j⟩⟩ rfl
  obtain rfl : j = 0 := by simp at hj; omega
  rw [h.cell 0]; rfl
set_option maxHeartbeats 4000000 in
set_option maxRecDepth 100000 in
theorem walk0 (d : Dr) (hd : d.Ok) (ids : ByteArray) (hids : ids.size ≤ 140737488351232) (bt : Nat) (hbt : bt ≤ 255) (w : World) :
    Calls Try.prog 6 #[.agg (drv d), .string ids, .int .u8 (bt : Int)] w fun e w' => e = .returned (.bool true) ∧ Below w.heap.size w w' := by
  obtain ⟨b0, hb0⟩ : ∃ b0, b0 = w.heap.size := ⟨_, rfl⟩
  obtain ⟨w0, hw0⟩ : ∃ V, V = w.alloc (.cells (drv d) 35) := ⟨_, rfl⟩
  have HD0 := Lib.hid (show Blk w0 b0 35 (drv d) by rw [hw0, hb0]; exact Blk.new _ _ _)
  have HB0 := Lib.hid (show Below w.heap.size w w0 by rw [hw0]; exact (Below.refl _ w).alloc (Nat.le_refl _) _)
  have HDI := Lib.hid (drv_info d hd.b)
  obtain ⟨x, hx⟩ : ∃ x, x = d.ad := ⟨_, rfl⟩
  have HXM := Lib.hid (show x.May by rw [hx]; exact d.ad_may hd)
  have HCX := Lib.hid (show ∀ W, Calls Try.prog 14 #[.agg (drv d)] W fun e w' => e = .returned (.agg (adv x)) ∧ Below W.heap.size W w' from fun W => by rw [hx]; exact Draft_any d hd W)
  obtain ⟨S, hS⟩ : ∃ S, S = txt x.body := ⟨_, rfl⟩
  have HES := Lib.hid (show encV x = .tuple #[.string S, .int .i64 0] by rw [encV_t x HXM.out, hS])
  have hS28 : 6 ≤ S.size ∧ S.size ≤ 28 := by
    refine ⟨?_, by rw [hS]; exact body_le x HXM.out⟩
    rw [hS, txt_size, x.body_size]; unfold Ad.size; have := HXM.out.2.1; omega
  have HS28 := Lib.hid hS28
  obtain ⟨m2, J, hJ, nJ, mJ, lJ, kJ, uJ⟩ := front_ids ids
  obtain ⟨L, hL⟩ : ∃ L, L = ids ++ (⟨#[0]⟩ : ByteArray) := ⟨_, rfl⟩
  rw [← hL] at hJ lJ
  have HJS := Lib.hid (show 1 ≤ J.size ∧ J.size ≤ 37 by omega)
  obtain ⟨Q, hQ⟩ : ∃ R, R = txt (64 :: J.data.toList) := ⟨_, rfl⟩
  have HER := Lib.hid (show encRV J = .tuple #[.string Q, .int .i64 0] by rw [encRV_t J HJS.out, hQ])
  have hQS : Q.size = J.size + 1 := by rw [hQ, one_size, len_data]
  have HQS := Lib.hid hQS
  -- the first text, its first byte turned
  obtain ⟨v, hv1, hv2, hv3⟩ : ∃ v : UInt8, bits .xor .u8 (fst x.echo : Int) (bits .and .u8 (bt : Int) 14) = (v.toNat : Int) ∧ v.toNat / 16 = 3 ∧ odd v.toNat = x.echo := by
    obtain ⟨q1, q2, q3, q4⟩ := turn_a x.echo ⟨bt, by omega⟩
    exact ⟨UInt8.ofNat (fst x.echo ^^^ (bt &&& 14)), by rw [byte_of _ q2]; exact q1, by rw [byte_of _ q2]; exact q3, by rw [byte_of _ q2]; exact q4⟩
  obtain ⟨R1, hR1⟩ : ∃ R, S.extract 1 S.size = R := ⟨_, rfl⟩
  obtain ⟨U, hU⟩ : ∃ U, U = txt [v] ++ R1 := ⟨_, rfl⟩
  have hR1' : R1 = txt (UInt8.ofNat x.id.toNat :: x.rest) := by rw [← hR1, hS]; exact txt_back x.body 1
  have hUU : U = txt (v :: UInt8.ofNat x.id.toNat :: x.rest) := by rw [hU, hR1', txt_app]; rfl
  have HDU := Lib.hid (show decV U = .tuple #[.agg (adv x), .int .i64 0] from decV_eq _ _ _ (by rw [hUU]; exact dec_first x HXM.out v _ hv2 hv3 (by have := HXM.out.1; rw [byte_of _ (by omega)]; omega)))
  have hUS : U.size = S.size := by rw [hUU, hS, txt_size, txt_size]; rfl
  have HUS := Lib.hid (show U.size ≤ 28 by omega)
  have HE1 := Lib.hid (show 0 < S.size ∧ byteAt S 0 = fst x.echo ∧ bits .xor .u8 (fst x.echo : Int) (bits .and .u8 (bt : Int) 14) = (v.toNat : Int) ∧ S.extract 1 S.size = R1 ∧ (txt [v]).size + R1.size ≤ 9223372036854775807 ∧ U = txt [v] ++ R1 from ⟨by omega, by rw [hS]; exact fst_byte x.echo, hv1, hR1, by rw [← ByteArray.size_append, ← hU]; omega, hU⟩)
  -- the second one
  obtain ⟨v2, hr1, hr2⟩ : ∃ v : UInt8, bits .xor .u8 (64 : Int) (bits .and .u8 (bt : Int) 15) = (v.toNat : Int) ∧ v.toNat / 16 = 4 := by
    obtain ⟨q1, q2, q3⟩ := turn_r ⟨bt, by omega⟩
    exact ⟨UInt8.ofNat (64 ^^^ (bt &&& 15)), by rw [byte_of _ q2]; exact q1, by rw [byte_of _ q2]; exact q3⟩
  obtain ⟨R2, hR2⟩ : ∃ R, Q.extract 1 Q.size = R := ⟨_, rfl⟩
  obtain ⟨U2, hU2⟩ : ∃ U, U = txt [v2] ++ R2 := ⟨_, rfl⟩
  have hR2' : R2 = txt J.data.toList := by rw [← hR2, hQ]; exact txt_back (64 :: J.data.toList) 1
  have hUU2 : U2 = txt (v2 :: J.data.toList) := by rw [hU2, hR2', txt_app]; rfl
  have HDU2 := Lib.hid (show decRV U2 = .tuple #[.agg (rmv J), .int .i64 0] from decRV_eq _ _ _ (by rw [hUU2]; exact decR_first J v2 hr2 HJS.out))
  have hUS2 : U2.size = J.size + 1 := by rw [hUU2, one_size, len_data]
  have HUS2 := Lib.hid (show U2.size ≤ 38 by have := HJS.out; omega)
  have HE2 := Lib.hid (show 0 < Q.size ∧ byteAt Q 0 = 64 ∧ bits .xor .u8 ((64 : Nat) : Int) (bits .and .u8 (bt : Int) 15) = (v2.toNat : Int) ∧ Q.extract 1 Q.size = R2 ∧ (txt [v2]).size + R2.size ≤ 9223372036854775807 ∧ U2 = txt [v2] ++ R2 from ⟨by omega, by rw [hQ]; rfl, hr1, hR2, by rw [← ByteArray.size_append, ← hU2]; have := HUS2.out; omega, hU2⟩)
  have HW0 := Lib.hid hw0
  have HE0 := Lib.hid hb0
  have HD := Lib.hid hd
  have hcat := fun W => run_string_add_sum (P := Try.prog) W ids ⟨#[0]⟩ (by show ids.size + 1 ≤ _; omega)
  rw [← hL] at hcat
  have HCAT := Lib.hid hcat
  have HMJ := Lib.hid mJ
  have HLJ := Lib.hid lJ
  have HJJ := Lib.hid hJ.symm
  have HIDS := Lib.hid hids
  clear hw0 hb0 hd hx hS hS28 hJ nJ mJ lJ kJ uJ hL hQ hQS hv1 hv2 hv3 hR1 hU hR1' hUU hUS hr1 hr2 hR2 hU2 hR2' hUU2 hUS2 hcat hids
  go_enter Try.func6, Try.ntmps6
  go_wp2_with fail
  rw [← HW0.out]
  refine (works_t w0).mono ?_
  rintro e W1 ⟨rfl, b⟩
  have HD1 := Lib.hid (HD0.out.below b HD0.out.lt)
  have HB1 := Lib.hid (HB0.out.trans (b.mono HB0.out.size))
  clear b HD0 HB0 HW0
  go_upto_region 3 with fail
  rw [← HE0.out]
  go_wp2_with (refine wpList_load_row_w (by rfl) 35 _ rfl b0 rfl 35 (drv d) (0, 0) _ ?_ Try.underlying35 rfl HDI.out ?_; exact HD1.out)
  refine (HCX.out W1).mono ?_
  rintro e W2 ⟨rfl, b⟩
  have HD2 := Lib.hid (HD1.out.below b HD1.out.lt)
  have HB2 := Lib.hid (HB1.out.trans (b.mono (by have := HB1.out.size; first | exact this | omega)))
  clear b HD1 HB1
  go_wp2_with fail
  refine (EncodeAdd_any x W2).mono ?_
  rintro e W3 ⟨rfl, b⟩
  rw [HES.out]
  have HD3 := Lib.hid (HD2.out.below b HD2.out.lt)
  have HB3 := Lib.hid (HB2.out.trans (b.mono HB2.out.size))
  clear b HD2 HB2
  have hcat := HCAT.out
  have mJ := HMJ.out
  have lJ := HLJ.out
  have eJ := HJJ.out
  have hids := HIDS.out
  go_upto_region 5 with fail
  clear hcat mJ lJ eJ hids
  go_wp2_with fail
  refine (EncodeRemove_any J (by have := HJS.out; omega) W3).mono ?_
  rintro e V ⟨rfl, b⟩
  rw [HER.out]
  have HDV := Lib.hid (HD3.out.below b HD3.out.lt)
  have HBV := Lib.hid (HB3.out.trans (b.mono HB3.out.size))
  clear b HD3 HB3
  have s1 : ¬ (S.size : Int) < 2 := by have := HS28.out; omega
  have s2 : ¬ (Q.size : Int) < 2 := by have := HQS.out; have := HJS.out; omega
  go_upto_region 8 with fail
  clear s1 s2
  go_cut [11, 12] (fun s t wx => ∃ p, s = .pointer (some ⟨p, 0, none⟩) ∧ t = .int .i64 0 ∧ Blk wx p 23 (adv x) ∧ Below V.heap.size V wx)
  case first =>
    have B0 : Below V.heap.size V V.drew := (Below.refl _ V).drew
    refine walk_start 16 (fun W => Below V.heap.size V W) (by kernel_rfl) (n := 17) rfl ?_
    obtain ⟨W0, hW0⟩ : ∃ W0, W0 = V.drew := ⟨_, rfl⟩
    rw [← hW0] at B0 ⊢
    clear hW0
    refine walk_free 0 (.string S) rfl (by kernel_rfl) (by kernel_rfl) (by kernel_rfl) (by kernel_rfl) (by kernel_rfl) (by kernel_rfl) B0 (fun _ _ => by kernel_rfl) ?_
    refine walk_free 1 (.int .u8 (fst x.echo : Int)) rfl (by kernel_rfl) (by kernel_rfl) (by kernel_rfl) (by kernel_rfl) (by kernel_rfl) (by kernel_rfl) B0 (fun _ _ => ex_byte 9 (.tmp 53) (.const (.int .i64 0)) (by kernel_rfl) S 0 (fst x.echo) (by kernel_rfl) (by kernel_rfl) (by kernel_rfl) HE1.out.1 HE1.out.2.1) ?_
    refine walk_free 2 (.int .u8 (bt : Int)) rfl (by kernel_rfl) (by kernel_rfl) (by kernel_rfl) (by kernel_rfl) (by kernel_rfl) (by kernel_rfl) B0 (fun _ _ => by kernel_rfl) ?_
    refine walk_free 3 (.int .u8 (bits .and .u8 (bt : Int) 14)) rfl (by kernel_rfl) (by kernel_rfl) (by kernel_rfl) (by kernel_rfl) (by kernel_rfl) (by kernel_rfl) B0 (fun _ _ => by kernel_rfl) ?_
    refine walk_free 4 (.int .u8 (v.toNat : Int)) rfl (by kernel_rfl) (by kernel_rfl) (by kernel_rfl) (by kernel_rfl) (by kernel_rfl) (by kernel_rfl) B0 (fun _ _ => by rw [← HE1.out.2.2.1]; kernel_rfl) ?_
    refine walk_free 7 (.string S) rfl (by kernel_rfl) (by kernel_rfl) (by kernel_rfl) (by kernel_rfl) (by kernel_rfl) (by kernel_rfl) B0 (fun _ _ => by kernel_rfl) ?_
    refine walk_free 8 (.string R1) rfl (by kernel_rfl) (by kernel_rfl) (by kernel_rfl) (by kernel_rfl) (by kernel_rfl) (by kernel_rfl) B0 (fun W _ => ex_slice_back (v := .string S) (lv := .int .i64 1) 9 (.tmp 60) (.const (.int .i64 1)) (by kernel_rfl) (by kernel_rfl) (by kernel_rfl) (str_tail S 1 HE1.out.1 R1 HE1.out.2.2.2.1 W)) ?_
    refine walk_two 5 14 (by kernel_rfl) ?_ ?_
    · obtain ⟨X1, hX1⟩ : ∃ w', w' = W0.alloc (.cells #[.int .u8 (v.toNat : Int)] 5) := ⟨_, rfl⟩
      obtain ⟨g1, hg1⟩ : ∃ g, g = W0.heap.size := ⟨_, rfl⟩
      have D1 : Below V.heap.size V X1 := by rw [hX1]; exact B0.alloc B0.size _
      have NN1 : Blk X1 g1 5 #[.int .u8 (v.toNat : Int)] := by rw [hX1, hg1]; exact Blk.new _ _ _
      have LL1 : V.heap.size ≤ g1 := by rw [hg1]; exact B0.size
      refine do_lone (v := .slice (some ⟨g1, 0, none⟩) 1 1) (w' := X1) 5 rfl (by kernel_rfl) (by rw [hX1, hg1]; exact ex_byte1 (.tmp 57) (by kernel_rfl) v (by kernel_rfl)) D1 ?_
      clear hX1 hg1 B0
      clear LL1
      refine walk_two 6 14 (by kernel_rfl) ?_ ?_
      · refine do_lone (v := .string (txt [v])) (w' := X1) 6 rfl (by kernel_rfl) (ex_convert_to (v := .slice (some ⟨g1, 0, none⟩) 1 1) 38 9 (.tmp 58) (by kernel_rfl) (by kernel_rfl) (one_txt _ _ v NN1)) D1 ?_
        refine walk_free 9 (.string U) rfl (by kernel_rfl) (by kernel_rfl) (by kernel_rfl) (by kernel_rfl) (by kernel_rfl) (by kernel_rfl) D1 (fun _ _ => ex_strcat_s 9 9 (.tmp 59) (.tmp 61) (by kernel_rfl) (txt [v]) R1 U (by kernel_rfl) (by kernel_rfl) HE1.out.2.2.2.2.1 HE1.out.2.2.2.2.2) ?_
        refine walk_two 10 14 (by kernel_rfl) ?_ ?_
        · refine do_call 10 rfl (by kernel_rfl) (by kernel_rfl) (answer (DecodeAdd_any U (by have := HUS.out; omega) _) HDU.out) (fun w' h => bel_in D1 h) ?_
          intro X3 hX3
          have D3 := bel_in D1 hX3
          have M3_n5 := NN1.below hX3 NN1.lt
          clear NN1
          clear hX3 D1
          refine walk_free 11 (.tuple #[.agg (adv x), .int .i64 0]) rfl (by kernel_rfl) (by kernel_rfl) (by kernel_rfl) (by kernel_rfl) (by kernel_rfl) (by kernel_rfl) D3 (fun _ _ => by kernel_rfl) ?_
          refine walk_free 12 (.agg (adv x)) rfl (by kernel_rfl) (by kernel_rfl) (by kernel_rfl) (by kernel_rfl) (by kernel_rfl) (by kernel_rfl) D3 (fun _ _ => by kernel_rfl) ?_
          refine walk_free 13 (.int .i64 0) rfl (by kernel_rfl) (by kernel_rfl) (by kernel_rfl) (by kernel_rfl) (by kernel_rfl) (by kernel_rfl) D3 (fun _ _ => by kernel_rfl) ?_
          obtain ⟨X4, hX4⟩ : ∃ w', w' = X3.alloc (.cells #[.bool false, .int .i64 0, .string ⟨#[]⟩, .bool false, .int .i64 0, .string ⟨#[]⟩] 23) := ⟨_, rfl⟩
          obtain ⟨g4, hg4⟩ : ∃ g, g = X3.heap.size := ⟨_, rfl⟩
          have D4 : Below V.heap.size V X4 := by rw [hX4]; exact D3.alloc D3.size _
          have NN4 : Blk X4 g4 23 #[.bool false, .int .i64 0, .string ⟨#[]⟩, .bool false, .int .i64 0, .string ⟨#[]⟩] := by rw [hX4, hg4]; exact Blk.new _ _ _
          have LL4 : V.heap.size ≤ g4 := by rw [hg4]; exact D3.size
          have M4_n5 : Blk X4 g1 5 #[.int .u8 (v.toNat : Int)] := by rw [hX4]; exact M3_n5.alloc _
          clear M3_n5
          refine walk_one 14 (by kernel_rfl) (do_lone (v := .pointer (some ⟨g4, 0, none⟩)) (w' := X4) 14 rfl (by kernel_rfl) (by rw [hX4, hg4]; exact ex_alloc 23 #[.bool false, .int .i64 0, .string ⟨#[]⟩, .bool false, .int .i64 0, .string ⟨#[]⟩] (by kernel_rfl) ad_zero) D4 ?_)
          clear hX4 hg4 D3
          obtain ⟨X5, hX5⟩ : ∃ w', w' = X4.setRow g4 (adv x) := ⟨_, rfl⟩
          have HL : Blk X5 g4 23 (adv x) := by rw [hX5]; exact setRow_heap _ _ _ _ _ _ NN4
          have D5 : Below V.heap.size V X5 := by rw [hX5]; exact below_setRow D4 LL4 _
          refine walk_one 15 (by kernel_rfl) (do_skip (w' := X5) 15 rfl (by kernel_rfl) (by rw [hX5]; exact ex_store_row 23 (.tmp 11) (.tmp 64) (by kernel_rfl) g4 (adv x) (by kernel_rfl) (by kernel_rfl) 23 #[.bool false, .int .i64 0, .string ⟨#[]⟩, .bool false, .int .i64 0, .string ⟨#[]⟩] NN4 ad_size rfl (ad_one _)) D5 ?_)
          refine walk_one 16 (by kernel_rfl) (do_lone (v := .int .i64 0) (w' := X5) 16 rfl (by kernel_rfl) (by kernel_rfl) D5 ?_)
          refine walk_end_at ⟨#[Value.agg (drv d), Value.string J, Value.int IntKind.u8 ↑bt, Value.pointer (some { block := b0, off := 0 }), undef, undef, Value.bool false, Value.string S, Value.int IntKind.i64 0, Value.string Q, Value.int IntKind.i64 0, .pointer (some ⟨g4, 0, none⟩), .int .i64 0, undef, undef, Value.bool true, Value.bool false, Value.tuple #[Value.string S, Value.int IntKind.i64 0], Value.agg (drv d), Value.agg (adv x), Value.tuple #[Value.string S, Value.int IntKind.i64 0], Value.string S, Value.int IntKind.i64 0, Value.string ids, Value.string L, Value.string ids, Value.int IntKind.i64 ↑ids.size, Value.int IntKind.i64 (↑ids.size + 1), Value.int IntKind.i64 ↑m2, Value.string J, Value.tuple #[Value.string Q, Value.int IntKind.i64 0], Value.string J, Value.agg #[Value.string J], Value.tuple #[Value.string Q, Value.int IntKind.i64 0], Value.string Q, Value.int IntKind.i64 0, Value.int IntKind.i64 0, Value.bool false, Value.bool false, Value.int IntKind.i64 0, Value.bool false, Value.bool false, Value.bool false, Value.string S, Value.int IntKind.i64 ↑S.size, Value.bool (decide ((S.size : Int) < 2)), Value.bool (decide ((S.size : Int) < 2)), Value.bool (decide ((S.size : Int) < 2)), Value.string Q, Value.int IntKind.i64 ↑Q.size, Value.bool (decide ((Q.size : Int) < 2)), Value.bool (decide ((S.size : Int) < 2) || decide ((Q.size : Int) < 2)), .tuple #[.agg (adv x), .int .i64 0], .string S, .int .u8 (fst x.echo : Int), .int .u8 (bt : Int), .int .u8 (bits .and .u8 (bt : Int) 14), .int .u8 (v.toNat : Int), .slice (some ⟨g1, 0, none⟩) 1 1, .string (txt [v]), .string S, .string R1, .string U, .tuple #[.agg (adv x), .int .i64 0], .agg (adv x), .int .i64 0, undef, undef, undef, undef, undef, undef, undef, undef, undef, undef, undef, undef, undef, undef, undef, undef, undef, undef, undef, undef, undef, undef, undef, undef, undef, undef, undef, undef, undef, undef, undef, undef], []⟩ (by kernel_rfl) (by kernel_rfl) ?_
          have HEND := Lib.hid (show Blk X5 g4 23 (adv x) ∧ Below V.heap.size V X5 from ⟨HL, D5⟩)
          clear HL hX5 D5 NN4
          go_wp2_with fail
          go_meet
          exact ⟨_, rfl, rfl, HEND.out⟩
        · obtain ⟨X6, hX6⟩ : ∃ w', w' = X1.alloc (.cells #[.bool false, .int .i64 0, .string ⟨#[]⟩, .bool false, .int .i64 0, .string ⟨#[]⟩] 23) := ⟨_, rfl⟩
          obtain ⟨g6, hg6⟩ : ∃ g, g = X1.heap.size := ⟨_, rfl⟩
          have D6 : Below V.heap.size V X6 := by rw [hX6]; exact D1.alloc D1.size _
          have NN6 : Blk X6 g6 23 #[.bool false, .int .i64 0, .string ⟨#[]⟩, .bool false, .int .i64 0, .string ⟨#[]⟩] := by rw [hX6, hg6]; exact Blk.new _ _ _
          have LL6 : V.heap.size ≤ g6 := by rw [hg6]; exact D1.size
          have M6_n5 : Blk X6 g1 5 #[.int .u8 (v.toNat : Int)] := by rw [hX6]; exact NN1.alloc _
          clear NN1
          refine do_lone (v := .pointer (some ⟨g6, 0, none⟩)) (w' := X6) 14 rfl (by kernel_rfl) (by rw [hX6, hg6]; exact ex_alloc 23 #[.bool false, .int .i64 0, .string ⟨#[]⟩, .bool false, .int .i64 0, .string ⟨#[]⟩] (by kernel_rfl) ad_zero) D6 ?_
          clear hX6 hg6 D1
          refine walk_one 10 (by kernel_rfl) (do_call 10 rfl (by kernel_rfl) (by kernel_rfl) (answer (DecodeAdd_any U (by have := HUS.out; omega) _) HDU.out) (fun w' h => bel_in D6 h) ?_)
          intro X7 hX7
          have D7 := bel_in D6 hX7
          have M7_n5 := M6_n5.below hX7 M6_n5.lt
          clear M6_n5
          have M7_n14 := NN6.below hX7 NN6.lt
          clear NN6
          clear hX7 D6
          refine walk_free 11 (.tuple #[.agg (adv x), .int .i64 0]) rfl (by kernel_rfl) (by kernel_rfl) (by kernel_rfl) (by kernel_rfl) (by kernel_rfl) (by kernel_rfl) D7 (fun _ _ => by kernel_rfl) ?_
          refine walk_free 12 (.agg (adv x)) rfl (by kernel_rfl) (by kernel_rfl) (by kernel_rfl) (by kernel_rfl) (by kernel_rfl) (by kernel_rfl) D7 (fun _ _ => by kernel_rfl) ?_
          refine walk_free 13 (.int .i64 0) rfl (by kernel_rfl) (by kernel_rfl) (by kernel_rfl) (by kernel_rfl) (by kernel_rfl) (by kernel_rfl) D7 (fun _ _ => by kernel_rfl) ?_
          obtain ⟨X8, hX8⟩ : ∃ w', w' = X7.setRow g6 (adv x) := ⟨_, rfl⟩
          have HL : Blk X8 g6 23 (adv x) := by rw [hX8]; exact setRow_heap _ _ _ _ _ _ M7_n14
          have D8 : Below V.heap.size V X8 := by rw [hX8]; exact below_setRow D7 LL6 _
          refine walk_one 15 (by kernel_rfl) (do_skip (w' := X8) 15 rfl (by kernel_rfl) (by rw [hX8]; exact ex_store_row 23 (.tmp 11) (.tmp 64) (by kernel_rfl) g6 (adv x) (by kernel_rfl) (by kernel_rfl) 23 #[.bool false, .int .i64 0, .string ⟨#[]⟩, .bool false, .int .i64 0, .string ⟨#[]⟩] M7_n14 ad_size rfl (ad_one _)) D8 ?_)
          refine walk_one 16 (by kernel_rfl) (do_lone (v := .int .i64 0) (w' := X8) 16 rfl (by kernel_rfl) (by kernel_rfl) D8 ?_)
          refine walk_end_at ⟨#[Value.agg (drv d), Value.string J, Value.int IntKind.u8 ↑bt, Value.pointer (some { block := b0, off := 0 }), undef, undef, Value.bool false, Value.string S, Value.int IntKind.i64 0, Value.string Q, Value.int IntKind.i64 0, .pointer (some ⟨g6, 0, none⟩), .int .i64 0, undef, undef, Value.bool true, Value.bool false, Value.tuple #[Value.string S, Value.int IntKind.i64 0], Value.agg (drv d), Value.agg (adv x), Value.tuple #[Value.string S, Value.int IntKind.i64 0], Value.string S, Value.int IntKind.i64 0, Value.string ids, Value.string L, Value.string ids, Value.int IntKind.i64 ↑ids.size, Value.int IntKind.i64 (↑ids.size + 1), Value.int IntKind.i64 ↑m2, Value.string J, Value.tuple #[Value.string Q, Value.int IntKind.i64 0], Value.string J, Value.agg #[Value.string J], Value.tuple #[Value.string Q, Value.int IntKind.i64 0], Value.string Q, Value.int IntKind.i64 0, Value.int IntKind.i64 0, Value.bool false, Value.bool false, Value.int IntKind.i64 0, Value.bool false, Value.bool false, Value.bool false, Value.string S, Value.int IntKind.i64 ↑S.size, Value.bool (decide ((S.size : Int) < 2)), Value.bool (decide ((S.size : Int) < 2)), Value.bool (decide ((S.size : Int) < 2)), Value.string Q, Value.int IntKind.i64 ↑Q.size, Value.bool (decide ((Q.size : Int) < 2)), Value.bool (decide ((S.size : Int) < 2) || decide ((Q.size : Int) < 2)), .tuple #[.agg (adv x), .int .i64 0], .string S, .int .u8 (fst x.echo : Int), .int .u8 (bt : Int), .int .u8 (bits .and .u8 (bt : Int) 14), .int .u8 (v.toNat : Int), .slice (some ⟨g1, 0, none⟩) 1 1, .string (txt [v]), .string S, .string R1, .string U, .tuple #[.agg (adv x), .int .i64 0], .agg (adv x), .int .i64 0, undef, undef, undef, undef, undef, undef, undef, undef, undef, undef, undef, undef, undef, undef, undef, undef, undef, undef, undef, undef, undef, undef, undef, undef, undef, undef, undef, undef, undef, undef, undef, undef], []⟩ (by kernel_rfl) (by kernel_rfl) ?_
          have HEND := Lib.hid (show Blk X8 g6 23 (adv x) ∧ Below V.heap.size V X8 from ⟨HL, D8⟩)
          clear HL hX8 D8 M7_n14
          go_wp2_with fail
          go_meet
          exact ⟨_, rfl, rfl, HEND.out⟩
      · obtain ⟨X9, hX9⟩ : ∃ w', w' = X1.alloc (.cells #[.bool false, .int .i64 0, .string ⟨#[]⟩, .bool false, .int .i64 0, .string ⟨#[]⟩] 23) := ⟨_, rfl⟩
        obtain ⟨g9, hg9⟩ : ∃ g, g = X1.heap.size := ⟨_, rfl⟩
        have D9 : Below V.heap.size V X9 := by rw [hX9]; exact D1.alloc D1.size _
        have NN9 : Blk X9 g9 23 #[.bool false, .int .i64 0, .string ⟨#[]⟩, .bool false, .int .i64 0, .string ⟨#[]⟩] := by rw [hX9, hg9]; exact Blk.new _ _ _
        have LL9 : V.heap.size ≤ g9 := by rw [hg9]; exact D1.size
        have M9_n5 : Blk X9 g1 5 #[.int .u8 (v.toNat : Int)] := by rw [hX9]; exact NN1.alloc _
        clear NN1
        refine do_lone (v := .pointer (some ⟨g9, 0, none⟩)) (w' := X9) 14 rfl (by kernel_rfl) (by rw [hX9, hg9]; exact ex_alloc 23 #[.bool false, .int .i64 0, .string ⟨#[]⟩, .bool false, .int .i64 0, .string ⟨#[]⟩] (by kernel_rfl) ad_zero) D9 ?_
        clear hX9 hg9 D1
        refine walk_one 6 (by kernel_rfl) (do_lone (v := .string (txt [v])) (w' := X9) 6 rfl (by kernel_rfl) (ex_convert_to (v := .slice (some ⟨g1, 0, none⟩) 1 1) 38 9 (.tmp 58) (by kernel_rfl) (by kernel_rfl) (one_txt _ _ v M9_n5)) D9 ?_)
        refine walk_free 9 (.string U) rfl (by kernel_rfl) (by kernel_rfl) (by kernel_rfl) (by kernel_rfl) (by kernel_rfl) (by kernel_rfl) D9 (fun _ _ => ex_strcat_s 9 9 (.tmp 59) (.tmp 61) (by kernel_rfl) (txt [v]) R1 U (by kernel_rfl) (by kernel_rfl) HE1.out.2.2.2.2.1 HE1.out.2.2.2.2.2) ?_
        refine walk_one 10 (by kernel_rfl) (do_call 10 rfl (by kernel_rfl) (by kernel_rfl) (answer (DecodeAdd_any U (by have := HUS.out; omega) _) HDU.out) (fun w' h => bel_in D9 h) ?_)
        intro X11 hX11
        have D11 := bel_in D9 hX11
        have M11_n5 := M9_n5.below hX11 M9_n5.lt
        clear M9_n5
        have M11_n14 := NN9.below hX11 NN9.lt
        clear NN9
        clear hX11 D9
        refine walk_free 11 (.tuple #[.agg (adv x), .int .i64 0]) rfl (by kernel_rfl) (by kernel_rfl) (by kernel_rfl) (by kernel_rfl) (by kernel_rfl) (by kernel_rfl) D11 (fun _ _ => by kernel_rfl) ?_
        refine walk_free 12 (.agg (adv x)) rfl (by kernel_rfl) (by kernel_rfl) (by kernel_rfl) (by kernel_rfl) (by kernel_rfl) (by kernel_rfl) D11 (fun _ _ => by kernel_rfl) ?_
        refine walk_free 13 (.int .i64 0) rfl (by kernel_rfl) (by kernel_rfl) (by kernel_rfl) (by kernel_rfl) (by kernel_rfl) (by kernel_rfl) D11 (fun _ _ => by kernel_rfl) ?_
        obtain ⟨X12, hX12⟩ : ∃ w', w' = X11.setRow g9 (adv x) := ⟨_, rfl⟩
        have HL : Blk X12 g9 23 (adv x) := by rw [hX12]; exact setRow_heap _ _ _ _ _ _ M11_n14
        have D12 : Below V.heap.size V X12 := by rw [hX12]; exact below_setRow D11 LL9 _
        refine walk_one 15 (by kernel_rfl) (do_skip (w' := X12) 15 rfl (by kernel_rfl) (by rw [hX12]; exact ex_store_row 23 (.tmp 11) (.tmp 64) (by kernel_rfl) g9 (adv x) (by kernel_rfl) (by kernel_rfl) 23 #[.bool false, .int .i64 0, .string ⟨#[]⟩, .bool false, .int .i64 0, .string ⟨#[]⟩] M11_n14 ad_size rfl (ad_one _)) D12 ?_)
        refine walk_one 16 (by kernel_rfl) (do_lone (v := .int .i64 0) (w' := X12) 16 rfl (by kernel_rfl) (by kernel_rfl) D12 ?_)
        refine walk_end_at ⟨#[Value.agg (drv d), Value.string J, Value.int IntKind.u8 ↑bt, Value.pointer (some { block := b0, off := 0 }), undef, undef, Value.bool false, Value.string S, Value.int IntKind.i64 0, Value.string Q, Value.int IntKind.i64 0, .pointer (some ⟨g9, 0, none⟩), .int .i64 0, undef, undef, Value.bool true, Value.bool false, Value.tuple #[Value.string S, Value.int IntKind.i64 0], Value.agg (drv d), Value.agg (adv x), Value.tuple #[Value.string S, Value.int IntKind.i64 0], Value.string S, Value.int IntKind.i64 0, Value.string ids, Value.string L, Value.string ids, Value.int IntKind.i64 ↑ids.size, Value.int IntKind.i64 (↑ids.size + 1), Value.int IntKind.i64 ↑m2, Value.string J, Value.tuple #[Value.string Q, Value.int IntKind.i64 0], Value.string J, Value.agg #[Value.string J], Value.tuple #[Value.string Q, Value.int IntKind.i64 0], Value.string Q, Value.int IntKind.i64 0, Value.int IntKind.i64 0, Value.bool false, Value.bool false, Value.int IntKind.i64 0, Value.bool false, Value.bool false, Value.bool false, Value.string S, Value.int IntKind.i64 ↑S.size, Value.bool (decide ((S.size : Int) < 2)), Value.bool (decide ((S.size : Int) < 2)), Value.bool (decide ((S.size : Int) < 2)), Value.string Q, Value.int IntKind.i64 ↑Q.size, Value.bool (decide ((Q.size : Int) < 2)), Value.bool (decide ((S.size : Int) < 2) || decide ((Q.size : Int) < 2)), .tuple #[.agg (adv x), .int .i64 0], .string S, .int .u8 (fst x.echo : Int), .int .u8 (bt : Int), .int .u8 (bits .and .u8 (bt : Int) 14), .int .u8 (v.toNat : Int), .slice (some ⟨g1, 0, none⟩) 1 1, .string (txt [v]), .string S, .string R1, .string U, .tuple #[.agg (adv x), .int .i64 0], .agg (adv x), .int .i64 0, undef, undef, undef, undef, undef, undef, undef, undef, undef, undef, undef, undef, undef, undef, undef, undef, undef, undef, undef, undef, undef, undef, undef, undef, undef, undef, undef, undef, undef, undef, undef, undef], []⟩ (by kernel_rfl) (by kernel_rfl) ?_
        have HEND := Lib.hid (show Blk X12 g9 23 (adv x) ∧ Below V.heap.size V X12 from ⟨HL, D12⟩)
        clear HL hX12 D12 M11_n14
        go_wp2_with fail
        go_meet
        exact ⟨_, rfl, rfl, HEND.out⟩
    · obtain ⟨X13, hX13⟩ : ∃ w', w' = W0.alloc (.cells #[.bool false, .int .i64 0, .string ⟨#[]⟩, .bool false, .int .i64 0, .string ⟨#[]⟩] 23) := ⟨_, rfl⟩
      obtain ⟨g13, hg13⟩ : ∃ g, g = W0.heap.size := ⟨_, rfl⟩
      have D13 : Below V.heap.size V X13 := by rw [hX13]; exact B0.alloc B0.size _
      have NN13 : Blk X13 g13 23 #[.bool false, .int .i64 0, .string ⟨#[]⟩, .bool false, .int .i64 0, .string ⟨#[]⟩] := by rw [hX13, hg13]; exact Blk.new _ _ _
      have LL13 : V.heap.size ≤ g13 := by rw [hg13]; exact B0.size
      refine do_lone (v := .pointer (some ⟨g13, 0, none⟩)) (w' := X13) 14 rfl (by kernel_rfl) (by rw [hX13, hg13]; exact ex_alloc 23 #[.bool false, .int .i64 0, .string ⟨#[]⟩, .bool false, .int .i64 0, .string ⟨#[]⟩] (by kernel_rfl) ad_zero) D13 ?_
      clear hX13 hg13 B0
      obtain ⟨X14, hX14⟩ : ∃ w', w' = X13.alloc (.cells #[.int .u8 (v.toNat : Int)] 5) := ⟨_, rfl⟩
      obtain ⟨g14, hg14⟩ : ∃ g, g = X13.heap.size := ⟨_, rfl⟩
      have D14 : Below V.heap.size V X14 := by rw [hX14]; exact D13.alloc D13.size _
      have NN14 : Blk X14 g14 5 #[.int .u8 (v.toNat : Int)] := by rw [hX14, hg14]; exact Blk.new _ _ _
      have LL14 : V.heap.size ≤ g14 := by rw [hg14]; exact D13.size
      have M14_n14 : Blk X14 g13 23 #[.bool false, .int .i64 0, .string ⟨#[]⟩, .bool false, .int .i64 0, .string ⟨#[]⟩] := by rw [hX14]; exact NN13.alloc _
      clear NN13
      refine walk_one 5 (by kernel_rfl) (do_lone (v := .slice (some ⟨g14, 0, none⟩) 1 1) (w' := X14) 5 rfl (by kernel_rfl) (by rw [hX14, hg14]; exact ex_byte1 (.tmp 57) (by kernel_rfl) v (by kernel_rfl)) D14 ?_)
      clear hX14 hg14 D13
      clear LL14
      refine walk_one 6 (by kernel_rfl) (do_lone (v := .string (txt [v])) (w' := X14) 6 rfl (by kernel_rfl) (ex_convert_to (v := .slice (some ⟨g14, 0, none⟩) 1 1) 38 9 (.tmp 58) (by kernel_rfl) (by kernel_rfl) (one_txt _ _ v NN14)) D14 ?_)
      refine walk_free 9 (.string U) rfl (by kernel_rfl) (by kernel_rfl) (by kernel_rfl) (by kernel_rfl) (by kernel_rfl) (by kernel_rfl) D14 (fun _ _ => ex_strcat_s 9 9 (.tmp 59) (.tmp 61) (by kernel_rfl) (txt [v]) R1 U (by kernel_rfl) (by kernel_rfl) HE1.out.2.2.2.2.1 HE1.out.2.2.2.2.2) ?_
      refine walk_one 10 (by kernel_rfl) (do_call 10 rfl (by kernel_rfl) (by kernel_rfl) (answer (DecodeAdd_any U (by have := HUS.out; omega) _) HDU.out) (fun w' h => bel_in D14 h) ?_)
      intro X16 hX16
      have D16 := bel_in D14 hX16
      have M16_n5 := NN14.below hX16 NN14.lt
      clear NN14
      have M16_n14 := M14_n14.below hX16 M14_n14.lt
      clear M14_n14
      clear hX16 D14
      refine walk_free 11 (.tuple #[.agg (adv x), .int .i64 0]) rfl (by kernel_rfl) (by kernel_rfl) (by kernel_rfl) (by kernel_rfl) (by kernel_rfl) (by kernel_rfl) D16 (fun _ _ => by kernel_rfl) ?_
      refine walk_free 12 (.agg (adv x)) rfl (by kernel_rfl) (by kernel_rfl) (by kernel_rfl) (by kernel_rfl) (by kernel_rfl) (by kernel_rfl) D16 (fun _ _ => by kernel_rfl) ?_
      refine walk_free 13 (.int .i64 0) rfl (by kernel_rfl) (by kernel_rfl) (by kernel_rfl) (by kernel_rfl) (by kernel_rfl) (by kernel_rfl) D16 (fun _ _ => by kernel_rfl) ?_
      obtain ⟨X17, hX17⟩ : ∃ w', w' = X16.setRow g13 (adv x) := ⟨_, rfl⟩
      have HL : Blk X17 g13 23 (adv x) := by rw [hX17]; exact setRow_heap _ _ _ _ _ _ M16_n14
      have D17 : Below V.heap.size V X17 := by rw [hX17]; exact below_setRow D16 LL13 _
      refine walk_one 15 (by kernel_rfl) (do_skip (w' := X17) 15 rfl (by kernel_rfl) (by rw [hX17]; exact ex_store_row 23 (.tmp 11) (.tmp 64) (by kernel_rfl) g13 (adv x) (by kernel_rfl) (by kernel_rfl) 23 #[.bool false, .int .i64 0, .string ⟨#[]⟩, .bool false, .int .i64 0, .string ⟨#[]⟩] M16_n14 ad_size rfl (ad_one _)) D17 ?_)
      refine walk_one 16 (by kernel_rfl) (do_lone (v := .int .i64 0) (w' := X17) 16 rfl (by kernel_rfl) (by kernel_rfl) D17 ?_)
      refine walk_end_at ⟨#[Value.agg (drv d), Value.string J, Value.int IntKind.u8 ↑bt, Value.pointer (some { block := b0, off := 0 }), undef, undef, Value.bool false, Value.string S, Value.int IntKind.i64 0, Value.string Q, Value.int IntKind.i64 0, .pointer (some ⟨g13, 0, none⟩), .int .i64 0, undef, undef, Value.bool true, Value.bool false, Value.tuple #[Value.string S, Value.int IntKind.i64 0], Value.agg (drv d), Value.agg (adv x), Value.tuple #[Value.string S, Value.int IntKind.i64 0], Value.string S, Value.int IntKind.i64 0, Value.string ids, Value.string L, Value.string ids, Value.int IntKind.i64 ↑ids.size, Value.int IntKind.i64 (↑ids.size + 1), Value.int IntKind.i64 ↑m2, Value.string J, Value.tuple #[Value.string Q, Value.int IntKind.i64 0], Value.string J, Value.agg #[Value.string J], Value.tuple #[Value.string Q, Value.int IntKind.i64 0], Value.string Q, Value.int IntKind.i64 0, Value.int IntKind.i64 0, Value.bool false, Value.bool false, Value.int IntKind.i64 0, Value.bool false, Value.bool false, Value.bool false, Value.string S, Value.int IntKind.i64 ↑S.size, Value.bool (decide ((S.size : Int) < 2)), Value.bool (decide ((S.size : Int) < 2)), Value.bool (decide ((S.size : Int) < 2)), Value.string Q, Value.int IntKind.i64 ↑Q.size, Value.bool (decide ((Q.size : Int) < 2)), Value.bool (decide ((S.size : Int) < 2) || decide ((Q.size : Int) < 2)), .tuple #[.agg (adv x), .int .i64 0], .string S, .int .u8 (fst x.echo : Int), .int .u8 (bt : Int), .int .u8 (bits .and .u8 (bt : Int) 14), .int .u8 (v.toNat : Int), .slice (some ⟨g14, 0, none⟩) 1 1, .string (txt [v]), .string S, .string R1, .string U, .tuple #[.agg (adv x), .int .i64 0], .agg (adv x), .int .i64 0, undef, undef, undef, undef, undef, undef, undef, undef, undef, undef, undef, undef, undef, undef, undef, undef, undef, undef, undef, undef, undef, undef, undef, undef, undef, undef, undef, undef, undef, undef, undef, undef], []⟩ (by kernel_rfl) (by kernel_rfl) ?_
      have HEND := Lib.hid (show Blk X17 g13 23 (adv x) ∧ Below V.heap.size V X17 from ⟨HL, D17⟩)
      clear HL hX17 D17 M16_n14
      go_wp2_with fail
      go_meet
      exact ⟨_, rfl, rfl, HEND.out⟩
  case rest =>
    obtain ⟨p, rfl, rfl, hp, hb⟩ := hcut
    obtain ⟨Y, hY⟩ : ∃ Y, Y = wc := ⟨_, rfl⟩
    rw [← hY] at hp hb ⊢
    have HPY := Lib.hid hp
    have HDY := Lib.hid (HDV.out.below hb HDV.out.lt)
    have HBY := Lib.hid (show Below w.heap.size w Y by have z := HBV.out.trans (hb.mono HBV.out.size); first | exact z | (rw [HE0.out]; exact z))
    clear hp hb hY HDV HBV HE1 HDU HUS
    have HE1 := HE2
    have HDU := HDU2
    have HUS := HUS2
    clear HE2 HDU2 HUS2
    go_upto_region 9 with fail
    go_cut [13, 14] (fun s t wx => ∃ q, s = .pointer (some ⟨q, 0, none⟩) ∧ t = .int .i64 0 ∧ Blk wx q 29 (rmv J) ∧ Below Y.heap.size Y wx)
    case first =>
      have B0 : Below Y.heap.size Y Y.drew := (Below.refl _ Y).drew
      refine walk_start 16 (fun W => Below Y.heap.size Y W) (by kernel_rfl) (n := 17) rfl ?_
      obtain ⟨W0, hW0⟩ : ∃ W0, W0 = Y.drew := ⟨_, rfl⟩
      rw [← hW0] at B0 ⊢
      clear hW0
      refine walk_free 0 (.string Q) rfl (by kernel_rfl) (by kernel_rfl) (by kernel_rfl) (by kernel_rfl) (by kernel_rfl) (by kernel_rfl) B0 (fun _ _ => by kernel_rfl) ?_
      refine walk_free 1 (.int .u8 (64 : Int)) rfl (by kernel_rfl) (by kernel_rfl) (by kernel_rfl) (by kernel_rfl) (by kernel_rfl) (by kernel_rfl) B0 (fun _ _ => ex_byte 9 (.tmp 67) (.const (.int .i64 0)) (by kernel_rfl) Q 0 (64) (by kernel_rfl) (by kernel_rfl) (by kernel_rfl) HE1.out.1 HE1.out.2.1) ?_
      refine walk_free 2 (.int .u8 (bt : Int)) rfl (by kernel_rfl) (by kernel_rfl) (by kernel_rfl) (by kernel_rfl) (by kernel_rfl) (by kernel_rfl) B0 (fun _ _ => by kernel_rfl) ?_
      refine walk_free 3 (.int .u8 (bits .and .u8 (bt : Int) 15)) rfl (by kernel_rfl) (by kernel_rfl) (by kernel_rfl) (by kernel_rfl) (by kernel_rfl) (by kernel_rfl) B0 (fun _ _ => by kernel_rfl) ?_
      refine walk_free 4 (.int .u8 (v2.toNat : Int)) rfl (by kernel_rfl) (by kernel_rfl) (by kernel_rfl) (by kernel_rfl) (by kernel_rfl) (by kernel_rfl) B0 (fun _ _ => by rw [← HE1.out.2.2.1]; kernel_rfl) ?_
      refine walk_free 7 (.string Q) rfl (by kernel_rfl) (by kernel_rfl) (by kernel_rfl) (by kernel_rfl) (by kernel_rfl) (by kernel_rfl) B0 (fun _ _ => by kernel_rfl) ?_
      refine walk_free 8 (.string R2) rfl (by kernel_rfl) (by kernel_rfl) (by kernel_rfl) (by kernel_rfl) (by kernel_rfl) (by kernel_rfl) B0 (fun W _ => ex_slice_back (v := .string Q) (lv := .int .i64 1) 9 (.tmp 74) (.const (.int .i64 1)) (by kernel_rfl) (by kernel_rfl) (by kernel_rfl) (str_tail Q 1 HE1.out.1 R2 HE1.out.2.2.2.1 W)) ?_
      refine walk_two 5 14 (by kernel_rfl) ?_ ?_
      · obtain ⟨X1, hX1⟩ : ∃ w', w' = W0.alloc (.cells #[.int .u8 (v2.toNat : Int)] 5) := ⟨_, rfl⟩
        obtain ⟨g1, hg1⟩ : ∃ g, g = W0.heap.size := ⟨_, rfl⟩
        have D1 : Below Y.heap.size Y X1 := by rw [hX1]; exact B0.alloc B0.size _
        have NN1 : Blk X1 g1 5 #[.int .u8 (v2.toNat : Int)] := by rw [hX1, hg1]; exact Blk.new _ _ _
        have LL1 : Y.heap.size ≤ g1 := by rw [hg1]; exact B0.size
        refine do_lone (v := .slice (some ⟨g1, 0, none⟩) 1 1) (w' := X1) 5 rfl (by kernel_rfl) (by rw [hX1, hg1]; exact ex_byte1 (.tmp 71) (by kernel_rfl) v2 (by kernel_rfl)) D1 ?_
        clear hX1 hg1 B0
        clear LL1
        refine walk_two 6 14 (by kernel_rfl) ?_ ?_
        · refine do_lone (v := .string (txt [v2])) (w' := X1) 6 rfl (by kernel_rfl) (ex_convert_to (v := .slice (some ⟨g1, 0, none⟩) 1 1) 38 9 (.tmp 72) (by kernel_rfl) (by kernel_rfl) (one_txt _ _ v2 NN1)) D1 ?_
          refine walk_free 9 (.string U2) rfl (by kernel_rfl) (by kernel_rfl) (by kernel_rfl) (by kernel_rfl) (by kernel_rfl) (by kernel_rfl) D1 (fun _ _ => ex_strcat_s 9 9 (.tmp 73) (.tmp 75) (by kernel_rfl) (txt [v2]) R2 U2 (by kernel_rfl) (by kernel_rfl) HE1.out.2.2.2.2.1 HE1.out.2.2.2.2.2) ?_
          refine walk_two 10 14 (by kernel_rfl) ?_ ?_
          · refine do_call 10 rfl (by kernel_rfl) (by kernel_rfl) (answer (DecodeRemove_any U2 (by have := HUS.out; omega) _) HDU.out) (fun w' h => bel_in D1 h) ?_
            intro X3 hX3
            have D3 := bel_in D1 hX3
            have M3_n5 := NN1.below hX3 NN1.lt
            clear NN1
            clear hX3 D1
            refine walk_free 11 (.tuple #[.agg (rmv J), .int .i64 0]) rfl (by kernel_rfl) (by kernel_rfl) (by kernel_rfl) (by kernel_rfl) (by kernel_rfl) (by kernel_rfl) D3 (fun _ _ => by kernel_rfl) ?_
            refine walk_free 12 (.agg (rmv J)) rfl (by kernel_rfl) (by kernel_rfl) (by kernel_rfl) (by kernel_rfl) (by kernel_rfl) (by kernel_rfl) D3 (fun _ _ => by kernel_rfl) ?_
            refine walk_free 13 (.int .i64 0) rfl (by kernel_rfl) (by kernel_rfl) (by kernel_rfl) (by kernel_rfl) (by kernel_rfl) (by kernel_rfl) D3 (fun _ _ => by kernel_rfl) ?_
            obtain ⟨X4, hX4⟩ : ∃ w', w' = X3.alloc (.cells #[.string ⟨#[]⟩] 29) := ⟨_, rfl⟩
            obtain ⟨g4, hg4⟩ : ∃ g, g = X3.heap.size := ⟨_, rfl⟩
            have D4 : Below Y.heap.size Y X4 := by rw [hX4]; exact D3.alloc D3.size _
            have NN4 : Blk X4 g4 29 #[.string ⟨#[]⟩] := by rw [hX4, hg4]; exact Blk.new _ _ _
            have LL4 : Y.heap.size ≤ g4 := by rw [hg4]; exact D3.size
            have M4_n5 : Blk X4 g1 5 #[.int .u8 (v2.toNat : Int)] := by rw [hX4]; exact M3_n5.alloc _
            clear M3_n5
            refine walk_one 14 (by kernel_rfl) (do_lone (v := .pointer (some ⟨g4, 0, none⟩)) (w' := X4) 14 rfl (by kernel_rfl) (by rw [hX4, hg4]; exact ex_alloc 29 #[.string ⟨#[]⟩] (by kernel_rfl) (fun _ => by kernel_rfl)) D4 ?_)
            clear hX4 hg4 D3
            obtain ⟨X5, hX5⟩ : ∃ w', w' = X4.setRow g4 (rmv J) := ⟨_, rfl⟩
            have HL : Blk X5 g4 29 (rmv J) := by rw [hX5]; exact setRow_heap _ _ _ _ _ _ NN4
            have D5 : Below Y.heap.size Y X5 := by rw [hX5]; exact below_setRow D4 LL4 _
            refine walk_one 15 (by kernel_rfl) (do_skip (w' := X5) 15 rfl (by kernel_rfl) (by rw [hX5]; exact ex_store_row 29 (.tmp 13) (.tmp 78) (by kernel_rfl) g4 (rmv J) (by kernel_rfl) (by kernel_rfl) 29 #[.string ⟨#[]⟩] NN4 rm_size rfl (rm_one _)) D5 ?_)
            refine walk_one 16 (by kernel_rfl) (do_lone (v := .int .i64 0) (w' := X5) 16 rfl (by kernel_rfl) (by kernel_rfl) D5 ?_)
            refine walk_end_at ⟨#[Value.agg (drv d), Value.string J, Value.int IntKind.u8 ↑bt, Value.pointer (some { block := b0, off := 0 }), undef, undef, Value.bool false, Value.string S, Value.int IntKind.i64 0, Value.string Q, Value.int IntKind.i64 0, Value.pointer (some { block := p, off := 0 }), Value.int IntKind.i64 0, .pointer (some ⟨g4, 0, none⟩), .int .i64 0, u15, u16, u17, u18, u19, u20, u21, u22, u23, u24, u25, u26, u27, u28, u29, u30, u31, u32, u33, u34, u35, u36, u37, u38, u39, u40, u41, u42, u43, u44, u45, u46, u47, u48, u49, u50, u51, u52, u53, u54, u55, u56, u57, u58, u59, u60, u61, u62, u63, u64, u65, .tuple #[.agg (rmv J), .int .i64 0], .string Q, .int .u8 (64 : Int), .int .u8 (bt : Int), .int .u8 (bits .and .u8 (bt : Int) 15), .int .u8 (v2.toNat : Int), .slice (some ⟨g1, 0, none⟩) 1 1, .string (txt [v2]), .string Q, .string R2, .string U2, .tuple #[.agg (rmv J), .int .i64 0], .agg (rmv J), .int .i64 0, u80, u81, u82, u83, u84, u85, u86, u87, u88, u89, u90, u91, u92, u93, u94, u95, u96, u97], []⟩ (by kernel_rfl) (by kernel_rfl) ?_
            have HEND := Lib.hid (show Blk X5 g4 29 (rmv J) ∧ Below Y.heap.size Y X5 from ⟨HL, D5⟩)
            clear HL hX5 D5 NN4
            go_wp2_with fail
            go_meet
            exact ⟨_, rfl, rfl, HEND.out⟩
          · obtain ⟨X6, hX6⟩ : ∃ w', w' = X1.alloc (.cells #[.string ⟨#[]⟩] 29) := ⟨_, rfl⟩
            obtain ⟨g6, hg6⟩ : ∃ g, g = X1.heap.size := ⟨_, rfl⟩
            have D6 : Below Y.heap.size Y X6 := by rw [hX6]; exact D1.alloc D1.size _
            have NN6 : Blk X6 g6 29 #[.string ⟨#[]⟩] := by rw [hX6, hg6]; exact Blk.new _ _ _
            have LL6 : Y.heap.size ≤ g6 := by rw [hg6]; exact D1.size
            have M6_n5 : Blk X6 g1 5 #[.int .u8 (v2.toNat : Int)] := by rw [hX6]; exact NN1.alloc _
            clear NN1
            refine do_lone (v := .pointer (some ⟨g6, 0, none⟩)) (w' := X6) 14 rfl (by kernel_rfl) (by rw [hX6, hg6]; exact ex_alloc 29 #[.string ⟨#[]⟩] (by kernel_rfl) (fun _ => by kernel_rfl)) D6 ?_
            clear hX6 hg6 D1
            refine walk_one 10 (by kernel_rfl) (do_call 10 rfl (by kernel_rfl) (by kernel_rfl) (answer (DecodeRemove_any U2 (by have := HUS.out; omega) _) HDU.out) (fun w' h => bel_in D6 h) ?_)
            intro X7 hX7
            have D7 := bel_in D6 hX7
            have M7_n5 := M6_n5.below hX7 M6_n5.lt
            clear M6_n5
            have M7_n14 := NN6.below hX7 NN6.lt
            clear NN6
            clear hX7 D6
            refine walk_free 11 (.tuple #[.agg (rmv J), .int .i64 0]) rfl (by kernel_rfl) (by kernel_rfl) (by kernel_rfl) (by kernel_rfl) (by kernel_rfl) (by kernel_rfl) D7 (fun _ _ => by kernel_rfl) ?_
            refine walk_free 12 (.agg (rmv J)) rfl (by kernel_rfl) (by kernel_rfl) (by kernel_rfl) (by kernel_rfl) (by kernel_rfl) (by kernel_rfl) D7 (fun _ _ => by kernel_rfl) ?_
            refine walk_free 13 (.int .i64 0) rfl (by kernel_rfl) (by kernel_rfl) (by kernel_rfl) (by kernel_rfl) (by kernel_rfl) (by kernel_rfl) D7 (fun _ _ => by kernel_rfl) ?_
            obtain ⟨X8, hX8⟩ : ∃ w', w' = X7.setRow g6 (rmv J) := ⟨_, rfl⟩
            have HL : Blk X8 g6 29 (rmv J) := by rw [hX8]; exact setRow_heap _ _ _ _ _ _ M7_n14
            have D8 : Below Y.heap.size Y X8 := by rw [hX8]; exact below_setRow D7 LL6 _
            refine walk_one 15 (by kernel_rfl) (do_skip (w' := X8) 15 rfl (by kernel_rfl) (by rw [hX8]; exact ex_store_row 29 (.tmp 13) (.tmp 78) (by kernel_rfl) g6 (rmv J) (by kernel_rfl) (by kernel_rfl) 29 #[.string ⟨#[]⟩] M7_n14 rm_size rfl (rm_one _)) D8 ?_)
            refine walk_one 16 (by kernel_rfl) (do_lone (v := .int .i64 0) (w' := X8) 16 rfl (by kernel_rfl) (by kernel_rfl) D8 ?_)
            refine walk_end_at ⟨#[Value.agg (drv d), Value.string J, Value.int IntKind.u8 ↑bt, Value.pointer (some { block := b0, off := 0 }), undef, undef, Value.bool false, Value.string S, Value.int IntKind.i64 0, Value.string Q, Value.int IntKind.i64 0, Value.pointer (some { block := p, off := 0 }), Value.int IntKind.i64 0, .pointer (some ⟨g6, 0, none⟩), .int .i64 0, u15, u16, u17, u18, u19, u20, u21, u22, u23, u24, u25, u26, u27, u28, u29, u30, u31, u32, u33, u34, u35, u36, u37, u38, u39, u40, u41, u42, u43, u44, u45, u46, u47, u48, u49, u50, u51, u52, u53, u54, u55, u56, u57, u58, u59, u60, u61, u62, u63, u64, u65, .tuple #[.agg (rmv J), .int .i64 0], .string Q, .int .u8 (64 : Int), .int .u8 (bt : Int), .int .u8 (bits .and .u8 (bt : Int) 15), .int .u8 (v2.toNat : Int), .slice (some ⟨g1, 0, none⟩) 1 1, .string (txt [v2]), .string Q, .string R2, .string U2, .tuple #[.agg (rmv J), .int .i64 0], .agg (rmv J), .int .i64 0, u80, u81, u82, u83, u84, u85, u86, u87, u88, u89, u90, u91, u92, u93, u94, u95, u96, u97], []⟩ (by kernel_rfl) (by kernel_rfl) ?_
            have HEND := Lib.hid (show Blk X8 g6 29 (rmv J) ∧ Below Y.heap.size Y X8 from ⟨HL, D8⟩)
            clear HL hX8 D8 M7_n14
            go_wp2_with fail
            go_meet
            exact ⟨_, rfl, rfl, HEND.out⟩
        · obtain ⟨X9, hX9⟩ : ∃ w', w' = X1.alloc (.cells #[.string ⟨#[]⟩] 29) := ⟨_, rfl⟩
          obtain ⟨g9, hg9⟩ : ∃ g, g = X1.heap.size := ⟨_, rfl⟩
          have D9 : Below Y.heap.size Y X9 := by rw [hX9]; exact D1.alloc D1.size _
          have NN9 : Blk X9 g9 29 #[.string ⟨#[]⟩] := by rw [hX9, hg9]; exact Blk.new _ _ _
          have LL9 : Y.heap.size ≤ g9 := by rw [hg9]; exact D1.size
          have M9_n5 : Blk X9 g1 5 #[.int .u8 (v2.toNat : Int)] := by rw [hX9]; exact NN1.alloc _
          clear NN1
          refine do_lone (v := .pointer (some ⟨g9, 0, none⟩)) (w' := X9) 14 rfl (by kernel_rfl) (by rw [hX9, hg9]; exact ex_alloc 29 #[.string ⟨#[]⟩] (by kernel_rfl) (fun _ => by kernel_rfl)) D9 ?_
          clear hX9 hg9 D1
          refine walk_one 6 (by kernel_rfl) (do_lone (v := .string (txt [v2])) (w' := X9) 6 rfl (by kernel_rfl) (ex_convert_to (v := .slice (some ⟨g1, 0, none⟩) 1 1) 38 9 (.tmp 72) (by kernel_rfl) (by kernel_rfl) (one_txt _ _ v2 M9_n5)) D9 ?_)
          refine walk_free 9 (.string U2) rfl (by kernel_rfl) (by kernel_rfl) (by kernel_rfl) (by kernel_rfl) (by kernel_rfl) (by kernel_rfl) D9 (fun _ _ => ex_strcat_s 9 9 (.tmp 73) (.tmp 75) (by kernel_rfl) (txt [v2]) R2 U2 (by kernel_rfl) (by kernel_rfl) HE1.out.2.2.2.2.1 HE1.out.2.2.2.2.2) ?_
          refine walk_one 10 (by kernel_rfl) (do_call 10 rfl (by kernel_rfl) (by kernel_rfl) (answer (DecodeRemove_any U2 (by have := HUS.out; omega) _) HDU.out) (fun w' h => bel_in D9 h) ?_)
          intro X11 hX11
          have D11 := bel_in D9 hX11
          have M11_n5 := M9_n5.below hX11 M9_n5.lt
          clear M9_n5
          have M11_n14 := NN9.below hX11 NN9.lt
          clear NN9
          clear hX11 D9
          refine walk_free 11 (.tuple #[.agg (rmv J), .int .i64 0]) rfl (by kernel_rfl) (by kernel_rfl) (by kernel_rfl) (by kernel_rfl) (by kernel_rfl) (by kernel_rfl) D11 (fun _ _ => by kernel_rfl) ?_
          refine walk_free 12 (.agg (rmv J)) rfl (by kernel_rfl) (by kernel_rfl) (by kernel_rfl) (by kernel_rfl) (by kernel_rfl) (by kernel_rfl) D11 (fun _ _ => by kernel_rfl) ?_
          refine walk_free 13 (.int .i64 0) rfl (by kernel_rfl) (by kernel_rfl) (by kernel_rfl) (by kernel_rfl) (by kernel_rfl) (by kernel_rfl) D11 (fun _ _ => by kernel_rfl) ?_
          obtain ⟨X12, hX12⟩ : ∃ w', w' = X11.setRow g9 (rmv J) := ⟨_, rfl⟩
          have HL : Blk X12 g9 29 (rmv J) := by rw [hX12]; exact setRow_heap _ _ _ _ _ _ M11_n14
          have D12 : Below Y.heap.size Y X12 := by rw [hX12]; exact below_setRow D11 LL9 _
          refine walk_one 15 (by kernel_rfl) (do_skip (w' := X12) 15 rfl (by kernel_rfl) (by rw [hX12]; exact ex_store_row 29 (.tmp 13) (.tmp 78) (by kernel_rfl) g9 (rmv J) (by kernel_rfl) (by kernel_rfl) 29 #[.string ⟨#[]⟩] M11_n14 rm_size rfl (rm_one _)) D12 ?_)
          refine walk_one 16 (by kernel_rfl) (do_lone (v := .int .i64 0) (w' := X12) 16 rfl (by kernel_rfl) (by kernel_rfl) D12 ?_)
          refine walk_end_at ⟨#[Value.agg (drv d), Value.string J, Value.int IntKind.u8 ↑bt, Value.pointer (some { block := b0, off := 0 }), undef, undef, Value.bool false, Value.string S, Value.int IntKind.i64 0, Value.string Q, Value.int IntKind.i64 0, Value.pointer (some { block := p, off := 0 }), Value.int IntKind.i64 0, .pointer (some ⟨g9, 0, none⟩), .int .i64 0, u15, u16, u17, u18, u19, u20, u21, u22, u23, u24, u25, u26, u27, u28, u29, u30, u31, u32, u33, u34, u35, u36, u37, u38, u39, u40, u41, u42, u43, u44, u45, u46, u47, u48, u49, u50, u51, u52, u53, u54, u55, u56, u57, u58, u59, u60, u61, u62, u63, u64, u65, .tuple #[.agg (rmv J), .int .i64 0], .string Q, .int .u8 (64 : Int), .int .u8 (bt : Int), .int .u8 (bits .and .u8 (bt : Int) 15), .int .u8 (v2.toNat : Int), .slice (some ⟨g1, 0, none⟩) 1 1, .string (txt [v2]), .string Q, .string R2, .string U2, .tuple #[.agg (rmv J), .int .i64 0], .agg (rmv J), .int .i64 0, u80, u81, u82, u83, u84, u85, u86, u87, u88, u89, u90, u91, u92, u93, u94, u95, u96, u97], []⟩ (by kernel_rfl) (by kernel_rfl) ?_
          have HEND := Lib.hid (show Blk X12 g9 29 (rmv J) ∧ Below Y.heap.size Y X12 from ⟨HL, D12⟩)
          clear HL hX12 D12 M11_n14
          go_wp2_with fail
          go_meet
          exact ⟨_, rfl, rfl, HEND.out⟩
      · obtain ⟨X13, hX13⟩ : ∃ w', w' = W0.alloc (.cells #[.string ⟨#[]⟩] 29) := ⟨_, rfl⟩
        obtain ⟨g13, hg13⟩ : ∃ g, g = W0.heap.size := ⟨_, rfl⟩
        have D13 : Below Y.heap.size Y X13 := by rw [hX13]; exact B0.alloc B0.size _
        have NN13 : Blk X13 g13 29 #[.string ⟨#[]⟩] := by rw [hX13, hg13]; exact Blk.new _ _ _
        have LL13 : Y.heap.size ≤ g13 := by rw [hg13]; exact B0.size
        refine do_lone (v := .pointer (some ⟨g13, 0, none⟩)) (w' := X13) 14 rfl (by kernel_rfl) (by rw [hX13, hg13]; exact ex_alloc 29 #[.string ⟨#[]⟩] (by kernel_rfl) (fun _ => by kernel_rfl)) D13 ?_
        clear hX13 hg13 B0
        obtain ⟨X14, hX14⟩ : ∃ w', w' = X13.alloc (.cells #[.int .u8 (v2.toNat : Int)] 5) := ⟨_, rfl⟩
        obtain ⟨g14, hg14⟩ : ∃ g, g = X13.heap.size := ⟨_, rfl⟩
        have D14 : Below Y.heap.size Y X14 := by rw [hX14]; exact D13.alloc D13.size _
        have NN14 : Blk X14 g14 5 #[.int .u8 (v2.toNat : Int)] := by rw [hX14, hg14]; exact Blk.new _ _ _
        have LL14 : Y.heap.size ≤ g14 := by rw [hg14]; exact D13.size
        have M14_n14 : Blk X14 g13 29 #[.string ⟨#[]⟩] := by rw [hX14]; exact NN13.alloc _
        clear NN13
        refine walk_one 5 (by kernel_rfl) (do_lone (v := .slice (some ⟨g14, 0, none⟩) 1 1) (w' := X14) 5 rfl (by kernel_rfl) (by rw [hX14, hg14]; exact ex_byte1 (.tmp 71) (by kernel_rfl) v2 (by kernel_rfl)) D14 ?_)
        clear hX14 hg14 D13
        clear LL14
        refine walk_one 6 (by kernel_rfl) (do_lone (v := .string (txt [v2])) (w' := X14) 6 rfl (by kernel_rfl) (ex_convert_to (v := .slice (some ⟨g14, 0, none⟩) 1 1) 38 9 (.tmp 72) (by kernel_rfl) (by kernel_rfl) (one_txt _ _ v2 NN14)) D14 ?_)
        refine walk_free 9 (.string U2) rfl (by kernel_rfl) (by kernel_rfl) (by kernel_rfl) (by kernel_rfl) (by kernel_rfl) (by kernel_rfl) D14 (fun _ _ => ex_strcat_s 9 9 (.tmp 73) (.tmp 75) (by kernel_rfl) (txt [v2]) R2 U2 (by kernel_rfl) (by kernel_rfl) HE1.out.2.2.2.2.1 HE1.out.2.2.2.2.2) ?_
        refine walk_one 10 (by kernel_rfl) (do_call 10 rfl (by kernel_rfl) (by kernel_rfl) (answer (DecodeRemove_any U2 (by have := HUS.out; omega) _) HDU.out) (fun w' h => bel_in D14 h) ?_)
        intro X16 hX16
        have D16 := bel_in D14 hX16
        have M16_n5 := NN14.below hX16 NN14.lt
        clear NN14
        have M16_n14 := M14_n14.below hX16 M14_n14.lt
        clear M14_n14
        clear hX16 D14
        refine walk_free 11 (.tuple #[.agg (rmv J), .int .i64 0]) rfl (by kernel_rfl) (by kernel_rfl) (by kernel_rfl) (by kernel_rfl) (by kernel_rfl) (by kernel_rfl) D16 (fun _ _ => by kernel_rfl) ?_
        refine walk_free 12 (.agg (rmv J)) rfl (by kernel_rfl) (by kernel_rfl) (by kernel_rfl) (by kernel_rfl) (by kernel_rfl) (by kernel_rfl) D16 (fun _ _ => by kernel_rfl) ?_
        refine walk_free 13 (.int .i64 0) rfl (by kernel_rfl) (by kernel_rfl) (by kernel_rfl) (by kernel_rfl) (by kernel_rfl) (by kernel_rfl) D16 (fun _ _ => by kernel_rfl) ?_
        obtain ⟨X17, hX17⟩ : ∃ w', w' = X16.setRow g13 (rmv J) := ⟨_, rfl⟩
        have HL : Blk X17 g13 29 (rmv J) := by rw [hX17]; exact setRow_heap _ _ _ _ _ _ M16_n14
        have D17 : Below Y.heap.size Y X17 := by rw [hX17]; exact below_setRow D16 LL13 _
        refine walk_one 15 (by kernel_rfl) (do_skip (w' := X17) 15 rfl (by kernel_rfl) (by rw [hX17]; exact ex_store_row 29 (.tmp 13) (.tmp 78) (by kernel_rfl) g13 (rmv J) (by kernel_rfl) (by kernel_rfl) 29 #[.string ⟨#[]⟩] M16_n14 rm_size rfl (rm_one _)) D17 ?_)
        refine walk_one 16 (by kernel_rfl) (do_lone (v := .int .i64 0) (w' := X17) 16 rfl (by kernel_rfl) (by kernel_rfl) D17 ?_)
        refine walk_end_at ⟨#[Value.agg (drv d), Value.string J, Value.int IntKind.u8 ↑bt, Value.pointer (some { block := b0, off := 0 }), undef, undef, Value.bool false, Value.string S, Value.int IntKind.i64 0, Value.string Q, Value.int IntKind.i64 0, Value.pointer (some { block := p, off := 0 }), Value.int IntKind.i64 0, .pointer (some ⟨g13, 0, none⟩), .int .i64 0, u15, u16, u17, u18, u19, u20, u21, u22, u23, u24, u25, u26, u27, u28, u29, u30, u31, u32, u33, u34, u35, u36, u37, u38, u39, u40, u41, u42, u43, u44, u45, u46, u47, u48, u49, u50, u51, u52, u53, u54, u55, u56, u57, u58, u59, u60, u61, u62, u63, u64, u65, .tuple #[.agg (rmv J), .int .i64 0], .string Q, .int .u8 (64 : Int), .int .u8 (bt : Int), .int .u8 (bits .and .u8 (bt : Int) 15), .int .u8 (v2.toNat : Int), .slice (some ⟨g14, 0, none⟩) 1 1, .string (txt [v2]), .string Q, .string R2, .string U2, .tuple #[.agg (rmv J), .int .i64 0], .agg (rmv J), .int .i64 0, u80, u81, u82, u83, u84, u85, u86, u87, u88, u89, u90, u91, u92, u93, u94, u95, u96, u97], []⟩ (by kernel_rfl) (by kernel_rfl) ?_
        have HEND := Lib.hid (show Blk X17 g13 29 (rmv J) ∧ Below Y.heap.size Y X17 from ⟨HL, D17⟩)
        clear HL hX17 D17 M16_n14
        go_wp2_with fail
        go_meet
        exact ⟨_, rfl, rfl, HEND.out⟩
    case rest =>
      obtain ⟨q, rfl, rfl, hq, hb⟩ := hcut
      obtain ⟨G, hG⟩ : ∃ G, G = wc := ⟨_, rfl⟩
      rw [← hG] at hq hb ⊢
      have HQG := Lib.hid hq
      have HPG := Lib.hid (HPY.out.below hb HPY.out.lt)
      have HDG := Lib.hid (HDY.out.below hb HDY.out.lt)
      have HBG := Lib.hid (show Below w.heap.size w G by have z := HBY.out.trans (hb.mono HBY.out.size); first | exact z | (rw [HE0.out]; exact z))
      have HXX := Lib.hid (ad_equal_b x x true (aeq_self x))
      clear hq hb hG HPY HDY HBY
      go_upto_region 10 with fail
      have B0 : Below G.heap.size G G.drew := (Below.refl _ G).drew
      refine held_start (fun W => Below G.heap.size G W) (by kernel_rfl) (n := 19) rfl ?_
      obtain ⟨W0, hW0⟩ : ∃ W0, W0 = G.drew := ⟨_, rfl⟩
      rw [← hW0] at B0 ⊢
      clear hW0
      refine held_free 0 (.int .i64 0) rfl (by kernel_rfl) (by kernel_rfl) (by kernel_rfl) (by kernel_rfl) B0 (fun _ _ => by kernel_rfl) ?_
      refine held_free 1 (.bool true) rfl (by kernel_rfl) (by kernel_rfl) (by kernel_rfl) (by kernel_rfl) B0 (fun _ _ => ex_inteq .i64 24 24 (.tmp 80) (.const (.int .i64 0)) (by kernel_rfl) (0) (0) (by kernel_rfl) (by kernel_rfl) (by kernel_rfl) rfl) ?_
      refine held_free 2 (.bool true) rfl (by kernel_rfl) (by kernel_rfl) (by kernel_rfl) (by kernel_rfl) B0 (fun _ _ => by kernel_rfl) ?_
      refine held_free 3 (.int .i64 0) rfl (by kernel_rfl) (by kernel_rfl) (by kernel_rfl) (by kernel_rfl) B0 (fun _ _ => by kernel_rfl) ?_
      refine held_free 4 (.bool true) rfl (by kernel_rfl) (by kernel_rfl) (by kernel_rfl) (by kernel_rfl) B0 (fun _ _ => ex_inteq .i64 24 24 (.tmp 83) (.const (.int .i64 0)) (by kernel_rfl) (0) (0) (by kernel_rfl) (by kernel_rfl) (by kernel_rfl) rfl) ?_
      refine held_free 5 (.bool true) rfl (by kernel_rfl) (by kernel_rfl) (by kernel_rfl) (by kernel_rfl) B0 (fun _ _ => by kernel_rfl) ?_
      refine held_free 6 (.bool true) rfl (by kernel_rfl) (by kernel_rfl) (by kernel_rfl) (by kernel_rfl) B0 (fun _ _ => by kernel_rfl) ?_
      refine held_free 7 (.agg (adv x)) rfl (by kernel_rfl) (by kernel_rfl) (by kernel_rfl) (by kernel_rfl) B0 (fun W b => exec_row_ 23 (.tmp 11) (by kernel_rfl) (p) (by kernel_rfl) 23 _ (0, 0) _ (HPG.out.below b HPG.out.lt) Try.underlying23 rfl (by kernel_rfl)) ?_
      refine held_free 8 (.agg (drv d)) rfl (by kernel_rfl) (by kernel_rfl) (by kernel_rfl) (by kernel_rfl) B0 (fun W b => exec_row_ 35 (.tmp 3) (by kernel_rfl) b0 (by kernel_rfl) 35 _ (0, 0) _ (HDG.out.below b HDG.out.lt) Try.underlying35 rfl HDI.out) ?_
      refine held_call 9 rfl (by kernel_rfl) (by kernel_rfl) (by kernel_rfl) (HCX.out _) (fun w' h => bel_in B0 h) ?_
      intro W1 hW1
      have B1 := bel_in B0 hW1
      clear hW1 B0
      refine held_free 10 (.bool true) rfl (by kernel_rfl) (by kernel_rfl) (by kernel_rfl) (by kernel_rfl) B1 (fun W b => ex_aggeq 23 23 (.tmp 87) (.tmp 89) (by kernel_rfl) ((adv x)) ((adv x)) (by kernel_rfl) (by kernel_rfl) (by kernel_rfl) true (HXX.out W)) ?_
      refine held_free 11 (.bool true) rfl (by kernel_rfl) (by kernel_rfl) (by kernel_rfl) (by kernel_rfl) B1 (fun _ _ => by kernel_rfl) ?_
      refine held_free 12 (.bool true) rfl (by kernel_rfl) (by kernel_rfl) (by kernel_rfl) (by kernel_rfl) B1 (fun _ _ => by kernel_rfl) ?_
      refine held_free 13 (.pointer (some ⟨q, 0, none⟩)) rfl (by kernel_rfl) (by kernel_rfl) (by kernel_rfl) (by kernel_rfl) B1 (fun _ _ => ex_field (v := .pointer (some ⟨q, 0, none⟩)) 29 (.tmp 13) 0 (by kernel_rfl) (by kernel_rfl) (by kernel_rfl)) ?_
      refine held_free 14 (.string J) rfl (by kernel_rfl) (by kernel_rfl) (by kernel_rfl) (by kernel_rfl) B1 (fun W b => ex_load 9 (.tmp 93) (by kernel_rfl) ⟨q, 0, none⟩ (by kernel_rfl) (by kernel_rfl) ((HQG.out.below b HQG.out.lt).cell 0)) ?_
      refine held_free 15 (.string J) rfl (by kernel_rfl) (by kernel_rfl) (by kernel_rfl) (by kernel_rfl) B1 (fun _ _ => by kernel_rfl) ?_
      refine held_free 16 (.bool true) rfl (by kernel_rfl) (by kernel_rfl) (by kernel_rfl) (by kernel_rfl) B1 (fun _ _ => ex_streq 9 9 (.tmp 94) (.tmp 95) (by kernel_rfl) (J) (J) (by kernel_rfl) (by kernel_rfl) (by kernel_rfl) rfl) ?_
      refine held_free 17 (.bool true) rfl (by kernel_rfl) (by kernel_rfl) (by kernel_rfl) (by kernel_rfl) B1 (fun _ _ => by kernel_rfl) ?_
      refine held_free 18 (.bool true) rfl (by kernel_rfl) (by kernel_rfl) (by kernel_rfl) (by kernel_rfl) B1 (fun _ _ => by kernel_rfl) ?_
      refine held_end_at ⟨#[Value.agg (drv d), .string J, Value.int IntKind.u8 ↑bt, .pointer (some ⟨b0, 0, none⟩), undef, undef, .bool true, Value.string S, Value.int IntKind.i64 0, Value.string Q, Value.int IntKind.i64 0, .pointer (some ⟨p, 0, none⟩), .int .i64 0, .pointer (some ⟨q, 0, none⟩), .int .i64 0, u15, u16, u17, u18, u19, u20, u21, u22, u23, u24, u25, u26, u27, u28, u29, u30, u31, u32, u33, u34, u35, u36, u37, u38, u39, u40, u41, u42, u43, u44, u45, u46, u47, u48, u49, u50, u51, u52, u53, u54, u55, u56, u57, u58, u59, u60, u61, u62, u63, u64, u65, u66, u67, u68, u69, u70, u71, u72, u73, u74, u75, u76, u77, u78, u79, .int .i64 0, .bool true, .bool true, .int .i64 0, .bool true, .bool true, .bool true, .agg (adv x), .agg (drv d), .agg (adv x), .bool true, .bool true, .bool true, .pointer (some ⟨q, 0, none⟩), .string J, .string J, .bool true, .bool true], []⟩ (by kernel_rfl) (by kernel_rfl) ?_
      go_wp2_with fail
      exact ret_slot 6 (.bool true) (by kernel_rfl) (by kernel_rfl) (by kernel_rfl) ⟨rfl, HBG.out.trans (B1.mono HBG.out.size)⟩
theorem walk (d : Dr) (hd : d.Ok) (ids : ByteArray) (hids : ids.size ≤ 140737488351232) (b : Int) (hb : 0 ≤ b ∧ b ≤ 255) (w : World) :
    Calls Try.prog 6 #[.agg (drv d), .string ids, .int .u8 b] w fun e w' => e = .returned (.bool true) ∧ Below w.heap.size w w' := by
  obtain ⟨n, rfl⟩ := Int.eq_ofNat_of_zero_le hb.1
  exact walk0 d hd ids hids n (by omega) w

theorem own : ownKnob Try.prog.godebug = none := by kernel_rfl
theorem laidOut : laidOutB Try.prog = true := by kernel_rfl

set_option maxRecDepth 100000 in
theorem lifted (os : Os) (started : os.Started) (H : Type) (enc : TypeId × Value → H) :
    ReturnsInHanded {} Try.checked os 6 .any (Rows.addrPassesSpec.pre6 enc Try.prog Try.f6 Rows.addrPassesRow.domain false) (Rows.addrPassesSpec.post enc Try.prog Try.f6 false true false false) := by
  refine returnsInHanded_of_change_sized (C := Try.checked) own started (by kernel_rfl) Try.func6
    (ChangeSpec.witness6 (enc := enc) (C := Try.checked) false ⟨#[], #[.agg #[.bool false, .bool false, .bool false, .int .u8 0, .int .u16 0, .int .u8 0, .int .u8 0, .int .u8 0, .int .u8 0, .int .u8 0, .int .u8 0, .int .u8 0, .int .u8 0, .int .u8 0, .int .u8 0, .int .u8 0, .int .u8 0, .int .u8 0, .int .u8 0, .int .u8 0, .int .u8 0, .int .u8 0, .int .u8 0, .int .u8 0, .int .u8 0, .int .u8 0, .int .u8 0, .int .u8 0, .int .u8 0], .string ByteArray.empty, .int .u8 0], []⟩ 8 (by kernel_rfl) (by kernel_rfl) (by kernel_rfl) (by kernel_rfl)) ?_
  intro W base args ds gs before hval0 hW hcnd hsz0 _
  have hsz : (DataW.weightsEach Try.prog (Try.f6.params.toList ++ Rows.addrPassesSpec.plain.varTypes Try.prog) (ds ++ gs)).all (· ≤ reachBytes) = true := hsz0
  have hval : ∀ (j : Nat) t v, Try.f6.params[j]? = some t → args[j]? = some v → Value.okWide Try.prog W .any base t v := hval0
  have hW' := hW
  obtain ⟨p, q, hA0, hV, rfl, hfz, hnd⟩ := hW
  have hA : DataW.TrodAll enc Try.prog W 0 (fun _ => true) true Try.f6.params.toList args.toList ds p := hA0
  rw [Try.params6] at hA hval hsz
  obtain ⟨v0, vs0, d0, ds0, p0, q0, hargs, rfl, rfl, h0, r0⟩ := trodAll_cons hA
  obtain ⟨v1, vs1, d1, ds1, p1, q1, rfl, rfl, rfl, h1, r1⟩ := trodAll_cons r0
  obtain ⟨v2, vs2, d2, ds2, p2, q2, rfl, rfl, rfl, h2, r2⟩ := trodAll_cons r1
  obtain ⟨rfl, rfl, rfl⟩ := trodAll_nil r2
  obtain rfl : args = #[v0, v1, v2] := by cases args; simp_all
  obtain ⟨rfl, rfl⟩ := trodVars_none hV
  have k0 := h0
  have lt0 : ∀ x ∈ p0, x.block < W.heap.size := by obtain ⟨m, hm⟩ := k0; exact DataW.trod_lt m _ _ _ hm
  obtain ⟨d, rfl, hd⟩ := open_draft (hval 0 35 v0 rfl rfl) h0
  obtain ⟨a1, rfl, rfl, rfl, w1⟩ := open_string Try.underlying9 (hval 1 9 v1 rfl rfl) h1
  obtain ⟨a2, rfl, rfl, rfl, w2⟩ := open_int Try.underlying5 (hval 2 5 v2 rfl rfl) h2
  have z1 : a1.size ≤ 140737488351232 := by have := sized_string hsz (j := 1) (t := 9) rfl rfl; simpa [reachBytes] using this
  clear hA0 hval0
  simp only [List.append_nil] at hW'
  refine (walk d hd a1 z1 a2 (bounds_u8 w2) W).mono fun e W' ⟨he, bel⟩ => ?_
  subst he
  exact ⟨_, rfl, _, _, _, [], _, [], hW', trodAll_mk1 (shut_bool Try.underlying4 _), (trodAll_cons_mk (Below.trod laidOut (by kernel_rfl) (of_decide_eq_true (by kernel_rfl)) k0 bel lt0) (trodAll_cons_mk (shut_string Try.underlying9 w1) (trodAll_cons_mk (shut_int Try.underlying5 w2) trodAll_mk0))), rfl, bel.frame _, fun h => by cases h⟩

theorem over : Rows.addrPassesRow.holds Try.pinned (OpenSpec.ofChange Rows.addrPassesSpec) :=
  OpenClaim.holds_of_wide 6 Try.f6 rfl rfl rfl rfl rfl rfl rfl ⟨rfl, rfl, rfl, rfl, rfl⟩ rfl rfl rfl rfl rfl (by kernel_rfl) Try.func6 (by kernel_rfl)
    (of_decide_eq_true (by kernel_rfl)) (by unfold Func.isWrapper; first | (rw [if_pos (by decide +kernel)]; kernel_rfl) | (rw [if_neg (by decide +kernel)]; exact ⟨rfl, rfl⟩))
    (fun os started H enc _ => lifted os started H enc)

theorem proved : Rows.AddrPassesSaid := over
#print axioms proved
end Go.Proofs.Ytcofdiamlmlhfaa.addrPasses
