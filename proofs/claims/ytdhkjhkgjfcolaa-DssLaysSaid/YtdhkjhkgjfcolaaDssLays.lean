/-
  DssLays returns true for all signals, bytes and ints. No conditions.
-/
import Derived.Test.YtdhkjhkgjfcolaaDssWorks
import Derived.Test.YtdhkjhkgjfcolaaDssFit
import Derived.Test.YtdhkjhkgjfcolaaDssOpen
import Derived.Test.YtdhkjhkgjfcolaaDssRefE
import Derived.WalkKit
import Derived.ProofKit
import Derived.OpenShut
import Derived.ShutString
import Derived.ChangeOld
import Derived.Below
import Derived.SizedLaws
namespace Go.Proofs.Ytdhkjhkgjfcolaa.dssLays
open Go.ChangeShapes Go.WideShapes Go.ChangeAt Go.RowKit
open Go.ChangeMaps (open_string shut_string)
set_option linter.unusedVariables false

set_option maxHeartbeats 4000000 in
set_option maxRecDepth 100000 in
theorem walk (x : Ds) (hx : x.Ok) (what : Int) (hwh : 0 ≤ what ∧ what ≤ 255) (n : Int) (hn : -9223372036854775808 ≤ n ∧ n ≤ 9223372036854775807) (w : World) :
    Calls Try.prog 3 #[.agg (dsv x), .int .u8 what, .int .i64 n] w fun e w' => e = .returned (.bool true) ∧ Below w.heap.size w w' := by
  have HX := Lib.hid hx
  have HNN := Lib.hid hn
  obtain ⟨b0, hb0⟩ : ∃ b, b = w.heap.size := ⟨_, rfl⟩
  have hc0 : Blk (w.alloc (.cells (dsv x) 26)) b0 26 (dsv x) := by rw [hb0]; exact Blk.new _ _ _
  have HC := Lib.hid hc0
  have HB := Lib.hid ((Below.refl _ w).alloc (Nat.le_refl _) (.cells (dsv x) 26))
  have HLL := Lib.hid (show w.heap.size ≤ b0 from Nat.le_of_eq hb0.symm)
  have HBE := Lib.hid hb0
  clear hx hn hb0 hc0
  go_enter Try.func3, Try.ntmps3
  go_upto_region 1 with fail
  rw [← HBE.out]
  go_wp2_with (refine wpList_load_row rfl 26 _ rfl b0 rfl 26 (dsv x) (0, 0) _ ?_ Try.underlying26 rfl ds_size ?_; exact HC.out)
  refine (fit_any x HX.out _).mono ?_
  rintro e W1 ⟨rfl, b⟩
  obtain ⟨y, hy⟩ : ∃ y, y = fitd x := ⟨_, rfl⟩
  have HYO := Lib.hid (show y.Ok by rw [hy]; exact fit_ok x HX.out)
  rw [← hy]
  obtain ⟨g, hg⟩ : ∃ g, g = W1.heap.size := ⟨_, rfl⟩
  obtain ⟨h, hh⟩ : ∃ h, h = W1.heap.size + 1 := ⟨_, rfl⟩
  obtain ⟨W2, hW2⟩ : ∃ W2, W2 = (W1.alloc (.cells (dsv y) 26)).alloc (.cells (dsv y) 26) := ⟨_, rfl⟩
  have hc1 := HC.out.below b HC.out.lt
  have hb1 := HB.out.trans (b.mono HB.out.size)
  have HC2 := Lib.hid (show Blk W2 b0 26 (dsv x) by rw [hW2]; exact (hc1.alloc _).alloc _)
  have HG2 := Lib.hid (show Blk W2 g 26 (dsv y) by rw [hW2, hg]; exact (Blk.new _ _ _).alloc _)
  have HH2 := Lib.hid (show Blk W2 h 26 (dsv y) by
    rw [hW2, hh]
    have q := Blk.new (W1.alloc (.cells (dsv y) 26)) 26 (dsv y)
    rwa [show (W1.alloc (.cells (dsv y) 26)).heap.size = W1.heap.size + 1 by simp] at q)
  have HB2 := Lib.hid (show Below w.heap.size w W2 by rw [hW2]; exact (hb1.alloc hb1.size _).alloc (by have := hb1.size; simp; omega) _)
  have HNE := Lib.hid (show b0 ≠ h ∧ g ≠ h ∧ w.heap.size ≤ h from ⟨by have := hc1.lt; omega, by omega, by have := hb1.size; omega⟩)
  have HWE := Lib.hid hW2
  have HGE := Lib.hid hg
  have HHE := Lib.hid hh
  have HZ1 := Lib.hid (show Blk (W1.alloc (.cells (dsv y) 26)) W1.heap.size 26 (dsv y) from Blk.new _ _ _)
  clear hy hg hh hW2 hc1 hb1 b HC HB HBE
  go_upto_block 0 with (refine wpList_load_row rfl 26 _ rfl W1.heap.size rfl 26 (dsv y) (0, 0) _ ?_ Try.underlying26 rfl ds_size ?_; exact HZ1.out)
  rw [← HWE.out, ← HHE.out, ← HGE.out]
  clear HWE HGE HHE HZ1
  go_cut [8] (fun p wx => p = ptr h ∧ Blk wx b0 26 (dsv x) ∧ Blk wx g 26 (dsv y) ∧ (∃ z : Ds, z.Ok ∧ Blk wx h 26 (dsv z)) ∧ Below w.heap.size w wx)
  case first =>
    have k0 := HH2.out.cell 0
    have k2 := HH2.out.cell 2
    have k4 := HH2.out.cell 4
    have k5 := HH2.out.cell 5
    have k3 := HH2.out.cell 3
    have k6 := HH2.out.cell 6
    have k8 := HH2.out.cell 8
    have k10 := HH2.out.cell 10
    have z0 := HH2.out.frozen 0
    have z2 := HH2.out.frozen 2
    have z3 := HH2.out.frozen 3
    have z4 := HH2.out.frozen 4
    have z5 := HH2.out.frozen 5
    have z6 := HH2.out.frozen 6
    have z8 := HH2.out.frozen 8
    have z10 := HH2.out.frozen 10
    simp only [List.getElem?_toArray, List.getElem?_cons_zero, List.getElem?_cons_succ] at k0 k2 k3 k4 k5 k6 k8 k10
    have cs : what % 8 = 0 ∨ what % 8 = 1 ∨ what % 8 = 2 ∨ what % 8 = 3 ∨ what % 8 = 4 ∨ what % 8 = 5 ∨ what % 8 = 6 ∨ what % 8 = 7 := by omega
    obtain ⟨m, hm⟩ : ∃ m : Nat, n % 18446744073709551616 = (m : Int) := ⟨(n % 18446744073709551616).toNat, by omega⟩
    obtain ⟨u, hu⟩ : ∃ u : Nat, n % 65536 = (u : Int) := ⟨(n % 65536).toNat, by omega⟩
    have hm' : IntKind.u64.wrap n = (m : Int) := by rw [IntKind.wrap_u64, hm]
    have hu' : IntKind.u16.wrap n = (u : Int) := by rw [IntKind.wrap_u16, hu]
    have HMU := Lib.hid (show m ≤ 18446744073709551615 ∧ u ≤ 65535 by omega)
    have HKEEP := Lib.hid (show ∀ (i : Nat) (v : Value), Blk (W2.setCell ⟨h, i, none⟩ v) b0 26 (dsv x) ∧ Blk (W2.setCell ⟨h, i, none⟩ v) g 26 (dsv y) ∧ Below w.heap.size w (W2.setCell ⟨h, i, none⟩ v) from fun i v => ⟨HC2.out.same (Below.heap_setCell W2 ⟨h, i, none⟩ v b0 HNE.out.1), HG2.out.same (Below.heap_setCell W2 ⟨h, i, none⟩ v g HNE.out.2.1), HB2.out.setCell HNE.out.2.2 _⟩)
    rcases cs with ew | ew | ew | ew | ew | ew | ew | ew
    · go_wp2_with fail
      go_meet
      exact ⟨rfl, (HKEEP.out _ _).1, (HKEEP.out _ _).2.1, ⟨(⟨y.fin, y.ha, y.la, y.ack, y.hm, y.ld, y.dsn, y.ssn, n, y.hs, y.sum⟩ : Ds), ⟨HYO.out.ack, HYO.out.dsn, HYO.out.ssn, HNN.out, HYO.out.sum⟩, HH2.out.set_ 8 _⟩, (HKEEP.out _ _).2.2⟩
    · go_wp2_with fail
      go_meet
      exact ⟨rfl, (HKEEP.out _ _).1, (HKEEP.out _ _).2.1, ⟨(⟨y.fin, y.ha, y.la, m, y.hm, y.ld, y.dsn, y.ssn, y.len, y.hs, y.sum⟩ : Ds), ⟨HMU.out.1, HYO.out.dsn, HYO.out.ssn, HYO.out.len, HYO.out.sum⟩, HH2.out.set_ 3 _⟩, (HKEEP.out _ _).2.2⟩
    · go_wp2_with fail
      go_meet
      exact ⟨rfl, (HKEEP.out _ _).1, (HKEEP.out _ _).2.1, ⟨(⟨y.fin, y.ha, y.la, y.ack, y.hm, y.ld, m, y.ssn, y.len, y.hs, y.sum⟩ : Ds), ⟨HYO.out.ack, HMU.out.1, HYO.out.ssn, HYO.out.len, HYO.out.sum⟩, HH2.out.set_ 6 _⟩, (HKEEP.out _ _).2.2⟩
    · go_wp2_with fail
      go_meet
      exact ⟨rfl, (HKEEP.out _ _).1, (HKEEP.out _ _).2.1, ⟨(⟨!y.fin, y.ha, y.la, y.ack, y.hm, y.ld, y.dsn, y.ssn, y.len, y.hs, y.sum⟩ : Ds), ⟨HYO.out.ack, HYO.out.dsn, HYO.out.ssn, HYO.out.len, HYO.out.sum⟩, HH2.out.set_ 0 _⟩, (HKEEP.out _ _).2.2⟩
    · go_wp2_with fail
      go_meet
      exact ⟨rfl, (HKEEP.out _ _).1, (HKEEP.out _ _).2.1, ⟨(⟨y.fin, y.ha, !y.la, y.ack, y.hm, y.ld, y.dsn, y.ssn, y.len, y.hs, y.sum⟩ : Ds), ⟨HYO.out.ack, HYO.out.dsn, HYO.out.ssn, HYO.out.len, HYO.out.sum⟩, HH2.out.set_ 2 _⟩, (HKEEP.out _ _).2.2⟩
    · go_wp2_with fail
      go_meet
      exact ⟨rfl, (HKEEP.out _ _).1, (HKEEP.out _ _).2.1, ⟨(⟨y.fin, y.ha, y.la, y.ack, y.hm, !y.ld, y.dsn, y.ssn, y.len, y.hs, y.sum⟩ : Ds), ⟨HYO.out.ack, HYO.out.dsn, HYO.out.ssn, HYO.out.len, HYO.out.sum⟩, HH2.out.set_ 5 _⟩, (HKEEP.out _ _).2.2⟩
    · go_wp2_with fail
      go_meet
      exact ⟨rfl, (HKEEP.out _ _).1, (HKEEP.out _ _).2.1, ⟨(⟨y.fin, y.ha, y.la, y.ack, !y.hm, y.ld, y.dsn, y.ssn, y.len, y.hs, y.sum⟩ : Ds), ⟨HYO.out.ack, HYO.out.dsn, HYO.out.ssn, HYO.out.len, HYO.out.sum⟩, HH2.out.set_ 4 _⟩, (HKEEP.out _ _).2.2⟩
    · go_wp2_with fail
      go_meet
      exact ⟨rfl, (HKEEP.out _ _).1, (HKEEP.out _ _).2.1, ⟨(⟨y.fin, y.ha, y.la, y.ack, y.hm, y.ld, y.dsn, y.ssn, y.len, y.hs, u⟩ : Ds), ⟨HYO.out.ack, HYO.out.dsn, HYO.out.ssn, HYO.out.len, HMU.out.2⟩, HH2.out.set_ 10 _⟩, (HKEEP.out _ _).2.2⟩
  case rest =>
    obtain ⟨rfl, hx3, hy3, ⟨z, hzo, hz3⟩, hb3⟩ := hcut
    obtain ⟨V, hV⟩ : ∃ V, V = wc := ⟨_, rfl⟩
    rw [← hV] at hx3 hy3 hz3 hb3 ⊢
    have HX3 := Lib.hid hx3
    have HY3 := Lib.hid hy3
    have HZ3 := Lib.hid hz3
    have HB3 := Lib.hid hb3
    have HZO := Lib.hid hzo
    clear hV hx3 hy3 hz3 hb3 hzo HC2 HG2 HH2 HB2 HNE
    go_wp2_with (first
      | (refine wpList_load_row rfl 26 _ rfl b0 rfl 26 (dsv x) (0, 0) _ ?_ Try.underlying26 rfl ds_size ?_; exact HX3.out)
      | (refine wpList_load_row rfl 26 _ rfl g rfl 26 (dsv y) (0, 0) _ ?_ Try.underlying26 rfl ds_size ?_; exact HY3.out)
      | (refine wpList_load_row rfl 26 _ rfl h rfl 26 (dsv z) (0, 0) _ ?_ Try.underlying26 rfl ds_size ?_; exact HZ3.out))
    obtain ⟨A, hA⟩ : ∃ A : Array Value, A = #[.bool x.fin, .bool x.ha, .bool x.la, .int .u64 (x.ack : Int), .bool x.hm, .bool x.ld, .int .u64 (x.dsn : Int), .int .u32 (x.ssn : Int), .int .i64 x.len, .bool x.hs, .int .u16 (x.sum : Int), .bool y.fin, .bool y.ha, .bool y.la, .int .u64 (y.ack : Int), .bool y.hm, .bool y.ld, .int .u64 (y.dsn : Int), .int .u32 (y.ssn : Int), .int .i64 y.len, .bool y.hs, .int .u16 (y.sum : Int), .bool z.fin, .bool z.ha, .bool z.la, .int .u64 (z.ack : Int), .bool z.hm, .bool z.ld, .int .u64 (z.dsn : Int), .int .u32 (z.ssn : Int), .int .i64 z.len, .bool z.hs, .int .u16 (z.sum : Int)] := ⟨_, rfl⟩
    rw [← hA]
    have HIX := Lib.hid (show ∀ (j : Nat), j < 3 → ∀ W : World, ∃ q : Ds, (Instr.index 28 (.agg A) (.int .i64 (j : Int))).run Try.prog W = .ok (.agg (dsv q)) W ∧ q.Ok from fun j hj W => by
      rw [hA]
      have : j = 0 ∨ j = 1 ∨ j = 2 := by omega
      rcases this with rfl | rfl | rfl
      · exact ⟨x, by kernel_rfl, HX.out⟩
      · exact ⟨y, by kernel_rfl, HYO.out⟩
      · exact ⟨z, by kernel_rfl, HZO.out⟩)
    clear hA HX3 HY3 HZ3
    go_loopw [65] (fun i wr => ∃ j : Nat, j ≤ 3 ∧ i = .int .i64 (j : Int) ∧ Below w.heap.size w wr) (fun i _ => (3 - intOf i).toNat)
    case atStart => exact ⟨0, by omega, rfl, HB3.out⟩
    case round =>
      obtain ⟨j, hj, rfl, hB⟩ := hrel
      have HB6 := Lib.hid hB
      clear hB HB3
      by_cases hlt : j < 3
      · obtain ⟨q, hi, hqo⟩ := HIX.out j hlt wr
        have i3 : (j : Int) < 3 := by omega
        have HLT := Lib.hid hlt
        have HQO := Lib.hid hqo
        clear hlt hj hqo
        have HZ6 := Lib.hid (Blk.new wr 26 (dsv q))
        have HB7 := Lib.hid (show Below w.heap.size w (wr.alloc (.cells (dsv q) 26)) from HB6.out.alloc HB6.out.size _)
        have HLW := Lib.hid (show wr.heap.size < (wr.alloc (.cells (dsv q) 26)).heap.size by simp)
        go_wp2_with (refine wpList_load_row rfl 26 _ rfl wr.heap.size rfl 26 (dsv q) (0, 0) _ ?_ Try.underlying26 rfl ds_size ?_; exact HZ6.out)
        refine (Encode_any q HQO.out _).mono ?_
        rintro e W7 ⟨rfl, b⟩
        have HZ7 := Lib.hid (HZ6.out.below b HLW.out)
        have HB8 := Lib.hid (HB7.out.trans (b.mono HB7.out.size))
        clear b HZ6 HB7 HLW HB6
        obtain ⟨s1, hs1⟩ : ∃ r, r = q.enc.1 := ⟨_, rfl⟩
        obtain ⟨c1, hc1⟩ : ∃ r, r = q.enc.2 := ⟨_, rfl⟩
        have HV := Lib.hid (show encV q = .tuple #[.string s1, .int .i64 c1] by rw [encV, hs1, hc1])
        clear hs1 hc1
        rw [HV.out]
        go_wp2_with (refine wpList_load_row rfl 26 _ rfl wr.heap.size rfl 26 (dsv q) (0, 0) _ ?_ Try.underlying26 rfl ds_size ?_; exact HZ7.out)
        refine (EncodeR_any q HQO.out W7).mono ?_
        rintro e W8 ⟨rfl, b⟩
        have HB9 := Lib.hid (HB8.out.trans (b.mono HB8.out.size))
        clear b HZ7 HB8
        rw [HV.out]
        go_wp2_with fail
        go_roundw
        case rel => exact ⟨j + 1, by have := HLT.out; omega, by go_num, HB9.out⟩
        case measure => simp [intOf]; omega
      · obtain rfl : j = 3 := by omega
        clear hlt hj
        go_wp2_with fail
        refine (works_t wr).mono ?_
        rintro e W6 ⟨rfl, b⟩
        have HB7 := Lib.hid (HB6.out.trans (b.mono HB6.out.size))
        go_wp2_with fail
        go_ret; exact ⟨rfl, HB7.out⟩

theorem own : ownKnob Try.prog.godebug = none := by kernel_rfl
theorem laidOut : laidOutB Try.prog = true := by kernel_rfl

set_option maxRecDepth 100000 in
theorem lifted (os : Os) (started : os.Started) (H : Type) (enc : TypeId × Value → H) :
    ReturnsInHanded {} Try.checked os 3 .any (Rows.dssLaysSpec.pre6 enc Try.prog Try.f3 Rows.dssLaysRow.domain false) (Rows.dssLaysSpec.post enc Try.prog Try.f3 false true false false) := by
  refine returnsInHanded_of_change (C := Try.checked) own started (by kernel_rfl) Try.func3
    (ChangeSpec.witness6 (enc := enc) (C := Try.checked) false ⟨#[], #[.agg #[.bool false, .bool false, .bool false, .int .u64 0, .bool false, .bool false, .int .u64 0, .int .u32 0, .int .i64 0, .bool false, .int .u16 0], .int .u8 0, .int .i64 0], []⟩ 8 (by kernel_rfl) (by kernel_rfl) (by kernel_rfl) (by kernel_rfl)) ?_
  intro W base args ds gs before hval0 hW hcnd _
  have hval : ∀ (j : Nat) t v, Try.f3.params[j]? = some t → args[j]? = some v → Value.okWide Try.prog W .any base t v := hval0
  have hW' := hW
  obtain ⟨p, q, hA0, hV, rfl, hfz, hnd⟩ := hW
  have hA : DataW.TrodAll enc Try.prog W 0 (fun _ => true) true Try.f3.params.toList args.toList ds p := hA0
  rw [Try.params3] at hA hval
  obtain ⟨v0, vs0, d0, ds0, p0, q0, hargs, rfl, rfl, h0, r0⟩ := trodAll_cons hA
  obtain ⟨v1, vs1, d1, ds1, p1, q1, rfl, rfl, rfl, h1, r1⟩ := trodAll_cons r0
  obtain ⟨v2, vs2, d2, ds2, p2, q2, rfl, rfl, rfl, h2, r2⟩ := trodAll_cons r1
  obtain ⟨rfl, rfl, rfl⟩ := trodAll_nil r2
  obtain rfl : args = #[v0, v1, v2] := by cases args; simp_all
  obtain ⟨rfl, rfl⟩ := trodVars_none hV
  have k0 := h0
  have lt0 : ∀ x ∈ p0, x.block < W.heap.size := by obtain ⟨m, hm⟩ := k0; exact DataW.trod_lt m _ _ _ hm
  obtain ⟨a0, rfl, o0⟩ := open_dss (hval 0 26 v0 rfl rfl) h0
  obtain ⟨a1, rfl, rfl, rfl, w1⟩ := open_int Try.underlying5 (hval 1 5 v1 rfl rfl) h1
  obtain ⟨a2, rfl, rfl, rfl, w2⟩ := open_int Try.underlying3 (hval 2 3 v2 rfl rfl) h2
  clear hA0 hval0
  simp only [List.append_nil] at hW'
  refine (walk a0 o0 a1 (bounds_u8 w1) a2 (bounds_i64 w2) W).mono fun e W' ⟨he, bel⟩ => ?_
  subst he
  exact ⟨_, rfl, _, _, _, [], _, [], hW', trodAll_mk1 (shut_bool Try.underlying4 _), (trodAll_cons_mk (Below.trod laidOut (by kernel_rfl) (of_decide_eq_true (by kernel_rfl)) k0 bel lt0) (trodAll_cons_mk (shut_int Try.underlying5 w1) (trodAll_cons_mk (shut_int Try.underlying3 w2) trodAll_mk0))), rfl, bel.frame _, fun h => by cases h⟩

theorem over : Rows.dssLaysRow.holds Try.pinned (OpenSpec.ofChange Rows.dssLaysSpec) :=
  OpenClaim.holds_of_wide 3 Try.f3 rfl rfl rfl rfl rfl rfl rfl ⟨rfl, rfl, rfl, rfl, rfl⟩ rfl rfl rfl rfl rfl (by kernel_rfl) Try.func3 (by kernel_rfl)
    (of_decide_eq_true (by kernel_rfl)) (by unfold Func.isWrapper; first | (rw [if_pos (by decide +kernel)]; kernel_rfl) | (rw [if_neg (by decide +kernel)]; exact ⟨rfl, rfl⟩))
    (fun os started H enc _ => lifted os started H enc)

theorem proved : Rows.DssLaysSaid := over
#print axioms proved
end Go.Proofs.Ytdhkjhkgjfcolaa.dssLays
