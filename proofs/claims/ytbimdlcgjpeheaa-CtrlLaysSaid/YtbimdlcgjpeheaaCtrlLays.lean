/-
  CtrlLays returns true for all options. No conditions.
-/
import Derived.Test.YtbimdlcgjpeheaaCtrlWorks
import Derived.Test.YtbimdlcgjpeheaaCtrlOpen
import Derived.WalkKit
import Derived.ProofKit
import Derived.OpenShut
import Derived.ShutString
import Derived.ChangeOld
import Derived.Below
import Derived.SizedLaws
namespace Go.Proofs.Ytbimdlcgjpeheaa.ctrlLays
open Go.ChangeShapes Go.WideShapes Go.ChangeAt Go.RowKit
open Go.ChangeMaps (open_string shut_string)
set_option linter.unusedVariables false

theorem conv_uint (f : Int) (u : Nat) (h : f % 18446744073709551616 = (u : Int)) (w : World) : (convert 3 39 (.int .i64 f)).run Try.prog w = .ok (.int .u64 (u : Int)) w := by
  rw [run_convert_int w 3 39 .i64 _ (by kernel_rfl) (by kernel_rfl), show Try.prog.intKind 39 = .u64 by kernel_rfl, IntKind.wrap_u64, h]
theorem conv_back (a : Int) (n : Nat) (h : a = (n : Int)) (hn : n ≤ 1000) (w : World) : (convert 39 3 (.int .u64 a)).run Try.prog w = .ok (.int .i64 (n : Int)) w := by
  have e : IntKind.i64.wrap a = (n : Int) := by rw [IntKind.wrap_i64]; omega
  rw [run_convert_int w 39 3 .u64 _ (by kernel_rfl) (by kernel_rfl), show Try.prog.intKind 3 = .i64 by kernel_rfl, e]
set_option maxHeartbeats 4000000 in
set_option maxRecDepth 100000 in
theorem walk (p : Bool) (n : Nat) (hn : n ≤ 18446744073709551615) (f r : Int) (w : World) :
    Calls Try.prog 3 #[.agg (prv p), .int .u64 (n : Int), .agg (rsv f r)] w fun e w' => e = .returned (.bool true) ∧ Below w.heap.size w w' := by
  obtain ⟨A, hA⟩ : ∃ A, A = prioT p := ⟨_, rfl⟩
  obtain ⟨B, hB⟩ : ∃ B, B = numT 6 n := ⟨_, rfl⟩
  obtain ⟨C, hC⟩ : ∃ C, C = numT 7 n := ⟨_, rfl⟩
  have EA := Lib.hid (show encPV p = .tuple #[.string A, .int .i64 0] by rw [hA]; rfl)
  have EB := Lib.hid (show encNV 6 n = .tuple #[.string B, .int .i64 0] by rw [hB]; rfl)
  have EC := Lib.hid (show encNV 7 n = .tuple #[.string C, .int .i64 0] by rw [hC]; rfl)
  have HA := Lib.hid (congrArg Value.string hA.symm)
  have HB := Lib.hid (congrArg Value.string hB.symm)
  have HC := Lib.hid (congrArg Value.string hC.symm)
  have HN := Lib.hid hn
  obtain ⟨u, hu⟩ : ∃ u : Nat, f % 18446744073709551616 = (u : Int) := ⟨(f % 18446744073709551616).toNat, by omega⟩
  obtain ⟨v, hv⟩ : ∃ u : Nat, r % 18446744073709551616 = (u : Int) := ⟨(r % 18446744073709551616).toNat, by omega⟩
  obtain ⟨y, hy⟩ : ∃ y : Nat, (u : Int) % 17 = (y : Int) := ⟨u % 17, by omega⟩
  obtain ⟨z, hz⟩ : ∃ y : Nat, (v : Int) % 258 = (y : Int) := ⟨v % 258, by omega⟩
  have K1 := Lib.hid (conv_uint f u hu)
  have K2 := Lib.hid (conv_uint r v hv)
  have K3 := Lib.hid (conv_back ((u : Int) % 17) y hy (by omega))
  have K4 := Lib.hid (conv_back ((v : Int) % 258) z hz (by omega))
  obtain ⟨bp, hbp⟩ : ∃ b, b = w.heap.size := ⟨_, rfl⟩
  obtain ⟨bx, hbx⟩ : ∃ b, b = w.heap.size + 1 := ⟨_, rfl⟩
  obtain ⟨w0, hw0⟩ : ∃ V, V = (w.alloc (.cells (prv p) 23)).alloc (.cells (rsv f r) 26) := ⟨_, rfl⟩
  have Hp_0 := Lib.hid (show Blk w0 bp 23 (prv p) by rw [hw0, hbp]; exact (Blk.new _ _ _).alloc _)
  have Hx_0 := Lib.hid (show Blk w0 bx 26 (rsv f r) by
    rw [hw0, hbx]
    have := Blk.new (w.alloc (.cells (prv p) 23)) 26 (rsv f r)
    simpa using this)
  have HB_0 := Lib.hid (show Below w.heap.size w w0 by rw [hw0]; exact ((Below.refl _ w).alloc (Nat.le_refl _) _).alloc (by simp) _)
  have HW0 := Lib.hid hw0
  have HE0 := Lib.hid hbp
  have HE1 := Lib.hid hbx
  clear hA hB hC hn hbp hbx hw0 hu hv hy hz
  go_enter Try.func3, Try.ntmps3
  go_upto_region 1 with fail
  rw [← HW0.out, ← HE1.out, ← HE0.out]
  clear HW0
  go_wp2_with (refine wpList_load_row_w (by rfl) 23 _ rfl bp rfl 23 (prv p) (0, 0) _ ?_ Try.underlying23 rfl pr_size ?_; exact Hp_0.out)
  refine (EncodePrio_any p w0).mono ?_
  rintro e U1 ⟨rfl, b⟩
  rw [EA.out]
  have HB_1 := Lib.hid (HB_0.out.trans (b.mono HB_0.out.size))
  have Hp_1 := Lib.hid (Hp_0.out.below b Hp_0.out.lt)
  have Hx_1 := Lib.hid (Hx_0.out.below b Hx_0.out.lt)
  clear b
  go_wp2_with fail
  refine (EncodeFail_any n HN.out U1).mono ?_
  rintro e U2 ⟨rfl, b⟩
  rw [EB.out]
  have HB_2 := Lib.hid (HB_1.out.trans (b.mono HB_1.out.size))
  have Hp_2 := Lib.hid (Hp_1.out.below b Hp_1.out.lt)
  have Hx_2 := Lib.hid (Hx_1.out.below b Hx_1.out.lt)
  clear b
  go_wp2_with fail
  refine (EncodeFast_any n HN.out U2).mono ?_
  rintro e U3 ⟨rfl, b⟩
  rw [EC.out]
  have HB_3 := Lib.hid (HB_2.out.trans (b.mono HB_2.out.size))
  have Hp_3 := Lib.hid (Hp_2.out.below b Hp_2.out.lt)
  have Hx_3 := Lib.hid (Hx_2.out.below b Hx_2.out.lt)
  clear b
  go_wp2_with (refine wpList_load_row_w (by rfl) 23 _ rfl bp rfl 23 (prv p) (0, 0) _ ?_ Try.underlying23 rfl pr_size ?_; exact Hp_3.out)
  refine (answer (prioR_any p U3) HA.out).mono ?_
  rintro e U4 ⟨rfl, b⟩
  have HB_4 := Lib.hid (HB_3.out.trans (b.mono HB_3.out.size))
  have Hp_4 := Lib.hid (Hp_3.out.below b Hp_3.out.lt)
  have Hx_4 := Lib.hid (Hx_3.out.below b Hx_3.out.lt)
  clear b
  go_wp2_with fail
  refine (answer (numFR_any n HN.out U4) HB.out).mono ?_
  rintro e U5 ⟨rfl, b⟩
  have HB_5 := Lib.hid (HB_4.out.trans (b.mono HB_4.out.size))
  have Hp_5 := Lib.hid (Hp_4.out.below b Hp_4.out.lt)
  have Hx_5 := Lib.hid (Hx_4.out.below b Hx_4.out.lt)
  clear b
  go_wp2_with fail
  refine (answer (numSR_any n HN.out U5) HC.out).mono ?_
  rintro e U6 ⟨rfl, b⟩
  have HB_6 := Lib.hid (HB_5.out.trans (b.mono HB_5.out.size))
  have Hp_6 := Lib.hid (Hp_5.out.below b Hp_5.out.lt)
  have Hx_6 := Lib.hid (Hx_5.out.below b Hx_5.out.lt)
  clear b
  have c0 := Hx_6.out.cell 0
  simp only [List.getElem?_toArray, List.getElem?_cons_zero] at c0
  have c1 := Hx_6.out.cell 1
  simp only [List.getElem?_toArray, List.getElem?_cons_zero, List.getElem?_cons_succ] at c1
  have k1 := K1.out
  have k2 := K2.out
  have k3 := K3.out
  have k4 := K4.out
  obtain ⟨g7, hg⟩ : ∃ g, g = U6.heap.size := ⟨_, rfl⟩
  obtain ⟨V7, hV⟩ : ∃ V, V = U6.alloc (.cells (rsv (y : Int) (z : Int)) 26) := ⟨_, rfl⟩
  have HB_7 := Lib.hid (show Below w.heap.size w V7 by rw [hV]; exact HB_6.out.alloc HB_6.out.size _)
  have Hp_7 := Lib.hid (show Blk V7 bp 23 (prv p) by rw [hV]; exact Hp_6.out.alloc _)
  have Hx_7 := Lib.hid (show Blk V7 bx 26 (rsv f r) by rw [hV]; exact Hx_6.out.alloc _)
  have Hy_7 := Lib.hid (show Blk V7 g7 26 (rsv (y : Int) (z : Int)) by rw [hV, hg]; exact Blk.new _ _ _)
  have HV := Lib.hid hV
  have HGG := Lib.hid hg
  clear hV hg
  go_upto_region 7 with fail
  rw [← HV.out, ← HGG.out]
  clear HV HGG
  clear k1 k2 k3 k4 c0 c1
  obtain ⟨AR, hAR⟩ : ∃ A : Array Value, A = #[.int .i64 f, .int .i64 r, .int .i64 (y : Int), .int .i64 (z : Int)] := ⟨_, rfl⟩
  have HIDX := Lib.hid (show ∀ j < 2, ∃ a b : Int, ∀ W, (Instr.index 40 (.agg AR) (.int .i64 ((j : Nat) : Int))).run Try.prog W = .ok (.agg (rsv a b)) W by
    intro j hj
    have hj2 : j = 0 ∨ j = 1 := by omega
    subst hAR
    rcases hj2 with rfl | rfl
    · exact ⟨f, r, fun _ => by kernel_rfl⟩
    · exact ⟨y, z, fun _ => by kernel_rfl⟩)
  have HAR := Lib.hid hAR
  clear hAR
  go_upto_region 8 with (first | (refine wpList_load_row_w (by rfl) 26 _ rfl bx rfl 26 (rsv f r) (0, 0) _ ?_ Try.underlying26 rfl rs_size ?_; exact Hx_7.out) | (refine wpList_load_row_w (by rfl) 26 _ rfl g7 rfl 26 (rsv (y : Int) (z : Int)) (0, 0) _ ?_ Try.underlying26 rfl rs_size ?_; exact Hy_7.out))
  rw [← HAR.out]
  go_loopw [81] (fun i wr => ∃ j : Nat, j ≤ 2 ∧ i = .int .i64 (j : Int) ∧ Below w.heap.size w wr) (fun i _ => (2 - intOf i).toNat)
  case atStart => exact ⟨0, by omega, rfl, HB_7.out⟩
  case round =>
    obtain ⟨j, hj, rfl, hB⟩ := hrel
    have HB4 := Lib.hid hB
    clear hB
    by_cases hlt : j < 2
    · obtain ⟨a, b, hidx⟩ := HIDX.out j hlt
      have hi := hidx wr
      have j2 : (j : Int) < 2 := by omega
      have HLT := Lib.hid hlt
      obtain ⟨D, e1, hD⟩ : ∃ (D : ByteArray) (e : Int), encTV a b = .tuple #[.string D, .int .i64 e] := ⟨_, _, rfl⟩
      have HD := Lib.hid hD
      clear hidx hlt hj hD
      obtain ⟨g51, hg⟩ : ∃ g, g = wr.heap.size := ⟨_, rfl⟩
      obtain ⟨V51, hV⟩ : ∃ V, V = wr.alloc (.cells (rsv a b) 26) := ⟨_, rfl⟩
      have HB_51 := Lib.hid (show Below w.heap.size w V51 by rw [hV]; exact HB4.out.alloc HB4.out.size _)
      have Hz_51 := Lib.hid (show Blk V51 g51 26 (rsv a b) by rw [hV, hg]; exact Blk.new _ _ _)
      have HV := Lib.hid hV
      have HGG := Lib.hid hg
      clear hV hg
      go_upto_region 10 with fail
      rw [← HV.out, ← HGG.out]
      clear HV HGG
      clear hi
      go_wp2_with (refine wpList_load_row_w (by rfl) 26 _ rfl g51 rfl 26 (rsv a b) (0, 0) _ ?_ Try.underlying26 rfl rs_size ?_; exact Hz_51.out)
      refine (EncodeRst_any a b V51).mono ?_
      rintro e U52 ⟨rfl, b⟩
      rw [HD.out]
      have HB_52 := Lib.hid (HB_51.out.trans (b.mono HB_51.out.size))
      have Hz_52 := Lib.hid (Hz_51.out.below b Hz_51.out.lt)
      clear b
      go_wp2_with (refine wpList_load_row_w (by rfl) 26 _ rfl g51 rfl 26 (rsv a b) (0, 0) _ ?_ Try.underlying26 rfl rs_size ?_; exact Hz_52.out)
      refine (EncodeRst_ref a b U52).mono ?_
      rintro e U53 ⟨rfl, b⟩
      rw [HD.out]
      have HB_53 := Lib.hid (HB_52.out.trans (b.mono HB_52.out.size))
      have Hz_53 := Lib.hid (Hz_52.out.below b Hz_52.out.lt)
      clear b
      go_wp2_with fail
      go_roundw
      case rel => exact ⟨j + 1, by have := HLT.out; omega, by go_num, HB_53.out⟩
      case measure => simp [intOf]; omega
    · obtain rfl : j = 2 := by omega
      clear hlt hj
      go_wp2_with fail
      refine (works_t wr).mono ?_
      rintro e U81 ⟨rfl, b⟩
      have HB_81 := Lib.hid (HB4.out.trans (b.mono HB4.out.size))
      clear b
      go_wp2_with fail
      go_ret
      exact ⟨rfl, HB_81.out⟩

theorem own : ownKnob Try.prog.godebug = none := by kernel_rfl
theorem laidOut : laidOutB Try.prog = true := by kernel_rfl

set_option maxRecDepth 100000 in
theorem lifted (os : Os) (started : os.Started) (H : Type) (enc : TypeId × Value → H) :
    ReturnsInHanded {} Try.checked os 3 .any (Rows.ctrlLaysSpec.pre6 enc Try.prog Try.f3 Rows.ctrlLaysRow.domain false) (Rows.ctrlLaysSpec.post enc Try.prog Try.f3 false true false false) := by
  refine returnsInHanded_of_change (C := Try.checked) own started (by kernel_rfl) Try.func3
    (ChangeSpec.witness6 (enc := enc) (C := Try.checked) false ⟨#[], #[.agg #[.bool false], .int .u64 0, .agg #[.int .i64 0, .int .i64 0]], []⟩ 8 (by kernel_rfl) (by kernel_rfl) (by kernel_rfl) (by kernel_rfl)) ?_
  intro W base args ds gs before hval0 hW hcnd _
  have hval : ∀ (j : Nat) t v, Try.f3.params[j]? = some t → args[j]? = some v → Value.okWide Try.prog W .any base t v := hval0
  have hW' := hW
  obtain ⟨p, q, hA0, hV, rfl, hfz, hnd⟩ := hW
  have hA : DataW.TrodAll enc Try.prog W 0 (fun _ => true) true Try.f3.params.toList args.toList ds p := hA0
  rw [Try.params3] at hA hval
  obtain ⟨v0, vs0, d0, ds0, p0, q0, hargs, rfl, rfl, h0, r0⟩ := trodAll_cons hA
  obtain ⟨v1, vs1, d1, ds1, p1, q1, rfl, rfl, rfl, h1, r1⟩ := trodAll_cons r0
  obtain ⟨v2, vs2, d2, ds2, p2, q2, rfl, rfl, rfl, h2, r2⟩ := trodAll_cons r1
  obtain ⟨rfl, rfl, rfl⟩ := trodAll_nil r2
  obtain rfl : args = #[v0, v1, v2] := by cases args; simp_all
  obtain ⟨rfl, rfl⟩ := trodVars_none hV
  have k0 := h0
  have lt0 : ∀ x ∈ p0, x.block < W.heap.size := by obtain ⟨m, hm⟩ := k0; exact DataW.trod_lt m _ _ _ hm
  obtain ⟨p0', rfl⟩ := open_prio (hval 0 23 v0 rfl rfl) h0
  obtain ⟨a1, rfl, rfl, rfl, w1⟩ := open_int Try.underlying24 (hval 1 24 v1 rfl rfl) h1
  have k2 := h2
  have lt2 : ∀ x ∈ p2, x.block < W.heap.size := by obtain ⟨m, hm⟩ := k2; exact DataW.trod_lt m _ _ _ hm
  obtain ⟨f, r, rfl, hf, hr⟩ := open_rst (hval 2 26 v2 rfl rfl) h2
  clear hA0 hval0
  simp only [List.append_nil] at hW'
  obtain ⟨l1, u1⟩ := bounds_u64 w1
  obtain ⟨n, rfl⟩ := Int.eq_ofNat_of_zero_le l1
  have hn : n ≤ 18446744073709551615 := by omega
  refine (walk p0' n hn f r W).mono fun e W' ⟨he, bel⟩ => ?_
  subst he
  exact ⟨_, rfl, _, _, _, [], _, [], hW', trodAll_mk1 (shut_bool Try.underlying4 _), (trodAll_cons_mk (Below.trod laidOut (by kernel_rfl) (of_decide_eq_true (by kernel_rfl)) k0 bel lt0) (trodAll_cons_mk (shut_int Try.underlying24 w1) (trodAll_cons_mk (Below.trod laidOut (by kernel_rfl) (of_decide_eq_true (by kernel_rfl)) k2 bel lt2) trodAll_mk0))), rfl, bel.frame _, fun h => by cases h⟩

theorem over : Rows.ctrlLaysRow.holds Try.pinned (OpenSpec.ofChange Rows.ctrlLaysSpec) :=
  OpenClaim.holds_of_wide 3 Try.f3 rfl rfl rfl rfl rfl rfl rfl ⟨rfl, rfl, rfl, rfl, rfl⟩ rfl rfl rfl rfl rfl (by kernel_rfl) Try.func3 (by kernel_rfl)
    (of_decide_eq_true (by kernel_rfl)) (by unfold Func.isWrapper; first | (rw [if_pos (by decide +kernel)]; kernel_rfl) | (rw [if_neg (by decide +kernel)]; exact ⟨rfl, rfl⟩))
    (fun os started H enc _ => lifted os started H enc)

theorem proved : Rows.CtrlLaysSaid := over
#print axioms proved
end Go.Proofs.Ytbimdlcgjpeheaa.ctrlLays
