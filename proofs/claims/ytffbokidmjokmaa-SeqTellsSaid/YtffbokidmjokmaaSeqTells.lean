/-
  SeqTells returns true for all numbers. No conditions.
-/
import Derived.Deep.QuietTactic
import Derived.BigQuiet
import Derived.WalkSmall
import Derived.Test.YtffbokidmjokmaaSeqWorks
import Derived.Test.YtffbokidmjokmaaSeqRefs
import Derived.WalkKit
import Derived.ProofKit
import Derived.OpenShut
import Derived.ShutString
import Derived.ChangeOld
import Derived.Below
namespace Go.Proofs.Ytffbokidmjokmaa.seqTells
open Go.ChangeShapes Go.WideShapes Go.ChangeAt Go.RowKit
open Go.ChangeMaps (open_string shut_string)
set_option linter.unusedVariables false

theorem gap_ex (a b : Int) (a0 : 0 ≤ a) (a1 : a ≤ 4294967295) (b0 : 0 ≤ b) (b1 : b ≤ 4294967295) : ∃ g, (g = b - a ∨ g = b - a + 4294967296 ∨ g = b - a - 4294967296) ∧ -2147483648 ≤ g ∧ g ≤ 2147483647 := by
  by_cases h : -2147483648 ≤ b - a
  · by_cases h' : b - a ≤ 2147483647
    · exact ⟨b - a, by omega⟩
    · exact ⟨b - a - 4294967296, by omega⟩
  · exact ⟨b - a + 4294967296, by omega⟩

/-- A callee that leaves the world alone, at a call in a region that only reads. -/
theorem qs {P : Program} {f : FuncId} {args : Array Value} {w : World} {n : Nat} {v : Value}
    (h : Calls P f args (w.drewN n) fun e w' => e = .returned v ∧ w.drewN n = w') : Calls P f args (w.drewN n) fun e w'' => e = .returned v ∧ ∃ m, w'' = w.drewN m :=
  Calls.quiet_of_same (h.mono fun _ _ x => ⟨x.1, x.2.symm⟩)

def Answers (f : Nat) (args : Array Value) (v : Value) : Prop := ∀ w : World, Calls Try.prog f args w fun e w' => e = .returned v ∧ w = w'

theorem before_agree (p q : Int) (p0 : 0 ≤ p) (p1 : p ≤ 4294967295) (q0 : 0 ≤ q) (q1 : q ≤ 4294967295) :
    ∃ v : Bool, Answers 10 #[.int .u32 p, .int .u32 q] (.bool v) ∧ Answers 11 #[.int .u32 p, .int .u32 q] (.bool v) := by
  obtain ⟨g, hg, g0, g1⟩ := gap_ex p q p0 p1 q0 q1
  by_cases c : 0 < g
  · exact ⟨true, fun w => Before_t p q g p0 p1 q0 q1 (by omega) c g1 w, fun w => Before_ref_t p q g p0 p1 q0 q1 (by omega) c g1 w⟩
  · refine ⟨false, fun w => Before_f p q g p0 p1 q0 q1 (by omega) g0 (by omega) w, fun w => ?_⟩
    by_cases z : g = 0
    · exact Before_ref_f p q 0 p0 p1 q0 q1 (by omega) (by omega) (by omega) (by omega) w
    · exact Before_ref_f p q (g + 4294967296) p0 p1 q0 q1 (by omega) (by omega) (by omega) (by omega) w

theorem gap_agree (p q : Int) (p0 : 0 ≤ p) (p1 : p ≤ 4294967295) (q0 : 0 ≤ q) (q1 : q ≤ 4294967295) :
    ∃ g : Int, (-2147483648 ≤ g ∧ g ≤ 2147483647) ∧ Answers 12 #[.int .u32 p, .int .u32 q] (.int .i64 g) ∧ Answers 13 #[.int .u32 p, .int .u32 q] (.int .i64 g) := by
  obtain ⟨g, hg, g0, g1⟩ := gap_ex p q p0 p1 q0 q1
  exact ⟨g, ⟨g0, g1⟩, fun w => Gap_any p q g p0 p1 q0 q1 hg g0 g1 w, fun w => Gap_ref p q g p0 p1 q0 q1 hg g0 g1 w⟩

theorem in_agree (x p n : Int) (p0 : 0 ≤ p) (p1 : p ≤ 4294967295) (q0 : 0 ≤ x) (q1 : x ≤ 4294967295) :
    ∃ (d : Int) (v : Bool), Answers 14 #[.int .u32 x, .int .u32 p, .int .i64 n] (.tuple #[.int .i64 d, .bool v]) ∧ Answers 15 #[.int .u32 x, .int .u32 p, .int .i64 n] (.tuple #[.int .i64 d, .bool v]) := by
  obtain ⟨d, hd, d0, d1⟩ : ∃ d, (d = x - p ∨ d = x - p + 4294967296) ∧ 0 ≤ d ∧ d ≤ 4294967295 := by
    by_cases h : 0 ≤ x - p
    · exact ⟨x - p, by omega⟩
    · exact ⟨x - p + 4294967296, by omega⟩
  by_cases c : d < n
  · exact ⟨d, true, fun w => In_t x p n d p0 p1 q0 q1 hd d0 d1 c w, fun w => In_ref_t x p n d p0 p1 q0 q1 hd d0 d1 c w⟩
  · exact ⟨0, false, fun w => In_f x p n d p0 p1 q0 q1 hd d0 d1 (by omega) w, fun w => In_ref_f x p n d p0 p1 q0 q1 hd d0 d1 (by omega) w⟩

theorem plus_agree (p n : Int) (p0 : 0 ≤ p) (p1 : p ≤ 4294967295) :
    ∃ r : Int, Answers 16 #[.int .u32 p, .int .i64 n] (.int .u32 r) ∧ Answers 9 #[.int .u32 p, .int .i64 n] (.int .u32 r) :=
  ⟨(p + n) % 4294967296, fun w => Plus_any p n _ rfl w, fun w => Plus_ref p n _ p0 p1 rfl w⟩

set_option maxRecDepth 100000 in
set_option maxHeartbeats 4000000 in
theorem walk (a : Int) (wa : (Lit.int .u32 a).wf = true) (b : Int) (wb : (Lit.int .u32 b).wf = true) (n : Int) (wn : (Lit.int .i64 n).wf = true) (w : World) :
    Calls Try.prog 3 #[.int .u32 a, .int .u32 b, .int .i64 n] w fun e w' => e = .returned (.bool true) ∧ Below w.heap.size w w' := by
  obtain ⟨a0, a1⟩ := bounds_u32 wa
  obtain ⟨b0, b1⟩ := bounds_u32 wb
  obtain ⟨n0, n1⟩ := bounds_i64 wn
  clear wa wb wn
  obtain ⟨t, et⟩ : ∃ x, n.tmod 1048576 = x := ⟨_, rfl⟩
  obtain ⟨c, hc⟩ : ∃ x, (a + t) % 4294967296 = x := ⟨_, rfl⟩
  obtain ⟨c0, c1⟩ : 0 ≤ c ∧ c ≤ 4294967295 := by omega
  have HC := Lib.hid hc
  clear hc
  have hix : ∀ k : Int, 0 ≤ k → k ≤ 2 → ∃ p q : Int, (0 ≤ p ∧ p ≤ 4294967295 ∧ 0 ≤ q ∧ q ≤ 4294967295) ∧ ∀ w, (Instr.index 25 (.agg #[.int .u32 a, .int .u32 b, .int .u32 a, .int .u32 c, .int .u32 a, .int .u32 a]) (.int .i64 k)).run Try.prog w = .ok (.agg #[.int .u32 p, .int .u32 q]) w := by
    intro k h0 h1
    obtain rfl | rfl | rfl : k = 0 ∨ k = 1 ∨ k = 2 := by omega
    · exact ⟨a, b, ⟨a0, a1, b0, b1⟩, fun _ => by kernel_rfl⟩
    · exact ⟨a, c, ⟨a0, a1, c0, c1⟩, fun _ => by kernel_rfl⟩
    · exact ⟨a, a, ⟨a0, a1, a0, a1⟩, fun _ => by kernel_rfl⟩
  have HIX := Lib.hid hix
  clear hix
  go_enter Try.func3, Try.ntmps3
  go_wp2_with (go_at_call 9; (with_reducible refine (Plus_ref a t c a0 a1 HC.out _).mono ?_); rintro e w' ⟨rfl, rfl⟩)
  go_loopw [30] (fun i wr => ∃ k : Int, 0 ≤ k ∧ k ≤ 3 ∧ i = .int .i64 k ∧ Below w.heap.size w wr) (fun i _ => 3 - (intOf i).toNat)
  case atStart => exact ⟨0, by omega, by omega, rfl, Below.refl _ _⟩
  case round =>
    obtain ⟨k, k0, k1, rfl, hB⟩ := hrel
    by_cases hk : k < 3
    · obtain ⟨p, q, ⟨p0, p1, q0, q1⟩, ix⟩ := HIX.out k k0 (by omega)
      obtain ⟨bv, hb1, hb2⟩ := before_agree p q p0 p1 q0 q1
      obtain ⟨g, ⟨g0, g1⟩, hg1, hg2⟩ := gap_agree p q p0 p1 q0 q1
      have HB1 := Lib.hid hb1
      have HB2 := Lib.hid hb2
      have HG1 := Lib.hid hg1
      have HG2 := Lib.hid hg2
      clear hb1 hb2 hg1 hg2 HIX HC
      obtain ⟨wo, ewo⟩ : ∃ wo : World, wo = wr := ⟨_, rfl⟩
      subst ewo
      go_wp2
      go_quiet (first
        | (go_at_call 10; exact qs (HB1.out _))
        | (go_at_call 11; exact qs (HB2.out _))
        | (go_at_call 12; exact qs (HG1.out _))
        | (go_at_call 13; exact qs (HG2.out _)))
      have hiz : ∀ i : Int, 0 ≤ i → i ≤ 2 → ∃ z : Int, ∀ w, (Instr.index 28 (.agg #[.int .i64 n, .int .i64 t, .int .i64 g]) (.int .i64 i)).run Try.prog w = .ok (.int .i64 z) w := by
        intro i h0 h1
        obtain rfl | rfl | rfl : i = 0 ∨ i = 1 ∨ i = 2 := by omega
        · exact ⟨n, fun _ => by kernel_rfl⟩
        · exact ⟨t, fun _ => by kernel_rfl⟩
        · exact ⟨g, fun _ => by kernel_rfl⟩
      have HIZ := Lib.hid hiz
      clear hiz ix
      go_wp2_with (go_at_call 13; refine (HG2.out _).mono ?_; rintro e w' ⟨rfl, rfl⟩)
      clear HB1 HB2 HG1 HG2
      go_loopw [66] (fun i wi => ∃ j : Int, 0 ≤ j ∧ j ≤ 3 ∧ i = .int .i64 j ∧ Below w.heap.size w wi ∧ wi.cell? ⟨wo.heap.size, 0, none⟩ = some (.int .u32 p) ∧ wi.cell? ⟨wo.heap.size, 1, none⟩ = some (.int .u32 q)) (fun i _ => 3 - (intOf i).toNat)
      case atStart =>
        exact ⟨0, by omega, by omega, rfl, below_drewN (hB.alloc hB.size _) _, by simp [go_sem], by simp [go_sem]⟩
      case round =>
        obtain ⟨j, j0, j1, rfl, hBi, cp, cq⟩ := hrel
        by_cases hj : j < 3
        · obtain ⟨z, iz⟩ := HIZ.out j j0 (by omega)
          obtain ⟨d, v, hi1, hi2⟩ := in_agree q p z p0 p1 q0 q1
          obtain ⟨r, hp1, hp2⟩ := plus_agree p z p0 p1
          have HI1 := Lib.hid hi1
          have HI2 := Lib.hid hi2
          have HP1 := Lib.hid hp1
          have HP2 := Lib.hid hp2
          clear hi1 hi2 hp1 hp2 HIZ
          go_wp2_with (first
            | (go_at_call 14; refine (HI1.out _).mono ?_; rintro e w' ⟨rfl, rfl⟩)
            | (go_at_call 15; refine (HI2.out _).mono ?_; rintro e w' ⟨rfl, rfl⟩))
          go_quiet (first
            | (go_at_call 16; exact qs (HP1.out _))
            | (go_at_call 9; exact qs (HP2.out _)))
          go_wp2
          go_roundw
          case rel => exact ⟨j + 1, by omega, by omega, rfl, below_drewN hBi _, by simpa using cp, by simpa using cq⟩
          case measure => simp [intOf]; omega
        · obtain rfl : j = 3 := by omega
          go_wp2
          go_roundw
          case rel => exact ⟨k + 1, by omega, by omega, rfl, hBi⟩
          case measure => simp [intOf]; omega
    · obtain rfl : k = 3 := by omega
      go_wp2_with (go_at_call 17; (with_reducible refine (works_true _).mono ?_); rintro e w0 ⟨rfl, hb0⟩)
      go_ret
      exact ⟨rfl, hB.trans (hb0.mono hB.size)⟩

theorem own : ownKnob Try.prog.godebug = none := by kernel_rfl
theorem laidOut : laidOutB Try.prog = true := by kernel_rfl

set_option maxRecDepth 100000 in
theorem lifted (os : Os) (started : os.Started) (H : Type) (enc : TypeId × Value → H) :
    ReturnsInHanded {} Try.checked os 3 .any (Rows.seqTellsSpec.pre6 enc Try.prog Try.f3 Rows.seqTellsRow.domain false) (Rows.seqTellsSpec.post enc Try.prog Try.f3 false true false false) := by
  refine returnsInHanded_of_change (C := Try.checked) own started (by kernel_rfl) Try.func3
    (ChangeSpec.witness6 (enc := enc) (C := Try.checked) false ⟨#[], #[.int .u32 0, .int .u32 0, .int .i64 0], []⟩ 8 (by kernel_rfl) (by kernel_rfl) (by kernel_rfl) (by kernel_rfl)) ?_
  intro W base args ds gs before hval0 hW hcnd _
  have hval : ∀ (j : Nat) t v, Try.f3.params[j]? = some t → args[j]? = some v → Value.okWide Try.prog W .any base t v := hval0
  have hW' := hW
  obtain ⟨p, q, hA0, hV, rfl, hfz, hnd⟩ := hW
  have hA : DataW.TrodAll enc Try.prog W 0 (fun _ => true) true Try.f3.params.toList args.toList ds p := hA0
  rw [Try.params3] at hA hval
  obtain ⟨v0, vs0, d0, ds0, p0, q0, hargs, rfl, rfl, h0, r0⟩ := trodAll_cons hA
  obtain ⟨v1, vs1, d1, ds1, p1, q1, rfl, rfl, rfl, h1, r1⟩ := trodAll_cons r0
  obtain ⟨v2, vs2, d2, ds2, p2, q2, rfl, rfl, rfl, h2, r2⟩ := trodAll_cons r1
  obtain ⟨rfl, rfl, rfl⟩ := trodAll_nil r2
  obtain rfl : args = #[v0, v1, v2] := by cases args; simp_all
  obtain ⟨rfl, rfl⟩ := trodVars_none hV
  obtain ⟨a0, rfl, rfl, rfl, w0⟩ := open_int Try.underlying22 (hval 0 22 v0 rfl rfl) h0
  obtain ⟨a1, rfl, rfl, rfl, w1⟩ := open_int Try.underlying22 (hval 1 22 v1 rfl rfl) h1
  obtain ⟨a2, rfl, rfl, rfl, w2⟩ := open_int Try.underlying3 (hval 2 3 v2 rfl rfl) h2
  clear hA0 hval0
  simp only [List.append_nil] at hW'
  refine (walk a0 w0 a1 w1 a2 w2 W).mono fun e W' ⟨he, bel⟩ => ?_
  subst he
  exact ⟨_, rfl, _, _, _, [], _, [], hW', trodAll_mk1 (shut_bool Try.underlying4 _), (trodAll_cons_mk (shut_int Try.underlying22 w0) (trodAll_cons_mk (shut_int Try.underlying22 w1) (trodAll_cons_mk (shut_int Try.underlying3 w2) trodAll_mk0))), rfl, bel.frame _, fun h => by cases h⟩

theorem over : Rows.seqTellsRow.holds Try.pinned (OpenSpec.ofChange Rows.seqTellsSpec) :=
  OpenClaim.holds_of_wide 3 Try.f3 rfl rfl rfl rfl rfl rfl rfl ⟨rfl, rfl, rfl, rfl, rfl⟩ rfl rfl rfl rfl rfl (by kernel_rfl) Try.func3 (by kernel_rfl)
    (of_decide_eq_true (by kernel_rfl)) (by unfold Func.isWrapper; first | (rw [if_pos (by decide +kernel)]; kernel_rfl) | (rw [if_neg (by decide +kernel)]; exact ⟨rfl, rfl⟩))
    (fun os started H enc _ => lifted os started H enc)

theorem proved : Rows.SeqTellsSaid := over
#print axioms proved
end Go.Proofs.Ytffbokidmjokmaa.seqTells
