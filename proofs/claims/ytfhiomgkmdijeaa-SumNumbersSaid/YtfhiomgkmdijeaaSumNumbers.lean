/-
  What numbers fold to, which sums are the same, the complement, and a sum of which a word is turned, is as the document says: of all numbers (statement SumNumbers, promises P3.1, P3.2), without condition.
-/
import Derived.Test.YtfhiomgkmdijeaaSumWorks
import Derived.Test.YtfhiomgkmdijeaaRows
import Derived.WalkKit
import Derived.ProofKit
import Derived.OpenShut
import Derived.ShutString
import Derived.ChangeOld
import Derived.Below
import Derived.SizedLaws
namespace Go.Proofs.Ytfhiomgkmdijeaa.sumNumbers
open Go.ChangeShapes Go.WideShapes Go.ChangeAt Go.RowKit
open Go.ChangeMaps (open_string shut_string)
set_option linter.unusedVariables false


set_option maxHeartbeats 2000000 in
set_option maxRecDepth 100000 in
theorem walk (n : Int) (hn : (Lit.int .u64 n).wf = true) (a : Int) (ha : (Lit.int .u16 a).wf = true) (b : Int) (hb : (Lit.int .u16 b).wf = true) (c : Int) (hc : (Lit.int .u16 c).wf = true) (w : World) :
    Calls Try.prog 4 #[.int .u64 n, .int .u16 a, .int .u16 b, .int .u16 c] w fun e w' => e = .returned (.bool true) ∧ Below w.heap.size w w' := by
  obtain ⟨n0, n1⟩ := bounds_u64 hn
  obtain ⟨a0, a1⟩ := bounds_u16 ha
  obtain ⟨b0, b1⟩ := bounds_u16 hb
  obtain ⟨c0, c1⟩ := bounds_u16 hc
  obtain ⟨x1, h1⟩ : ∃ x, n % 131072 = x := ⟨_, rfl⟩
  obtain ⟨x2, h2⟩ : ∃ x, 65535 * (n % 1000) = x := ⟨_, rfl⟩
  have x10 : 0 ≤ x1 := by omega
  have x11 : x1 ≤ 18446744073709551615 := by omega
  have x20 : 0 ≤ x2 := by omega
  have x21 : x2 ≤ 18446744073709551615 := by omega
  clear hn ha hb hc
  have i0 : ∀ w, (Instr.index 32 (.agg #[.int .u64 n, .int .u64 x1, .int .u64 x2]) (.int .i64 0)).run Try.prog w = .ok (.int .u64 n) w := fun _ => by kernel_rfl
  have i1 : ∀ w, (Instr.index 32 (.agg #[.int .u64 n, .int .u64 x1, .int .u64 x2]) (.int .i64 1)).run Try.prog w = .ok (.int .u64 x1) w := fun _ => by kernel_rfl
  have i2 : ∀ w, (Instr.index 32 (.agg #[.int .u64 n, .int .u64 x1, .int .u64 x2]) (.int .i64 2)).run Try.prog w = .ok (.int .u64 x2) w := fun _ => by kernel_rfl
  go_enter Try.func4, Try.ntmps4
  go_wp2
  clear h1 h2
  go_loopw [18] (fun i wr => (i = .int .i64 0 ∨ i = .int .i64 1 ∨ i = .int .i64 2 ∨ i = .int .i64 3) ∧ w = wr) (fun i _ => 3 - (intOf i).toNat)
  case atStart => exact ⟨.inl rfl, rfl⟩
  case round =>
    obtain ⟨(rfl | rfl | rfl | rfl), rfl⟩ := hrel
    · clear i1 i2
      go_wp2_with (first | (go_at_call 15; refine (Fold_any n n0 n1 _).mono ?_; rintro e w' ⟨rfl, rfl⟩) | (go_at_call 16; refine (Fold_ref n n0 n1 _).mono ?_; rintro e w' ⟨rfl, rfl⟩))
      go_roundw
      case rel => exact ⟨by simp, by first | rfl | trivial⟩
      case measure => simp [intOf]
    · clear i0 i2
      go_wp2_with (first | (go_at_call 15; refine (Fold_any x1 x10 x11 _).mono ?_; rintro e w' ⟨rfl, rfl⟩) | (go_at_call 16; refine (Fold_ref x1 x10 x11 _).mono ?_; rintro e w' ⟨rfl, rfl⟩))
      go_roundw
      case rel => exact ⟨by simp, by first | rfl | trivial⟩
      case measure => simp [intOf]
    · clear i0 i1
      go_wp2_with (first | (go_at_call 15; refine (Fold_any x2 x20 x21 _).mono ?_; rintro e w' ⟨rfl, rfl⟩) | (go_at_call 16; refine (Fold_ref x2 x20 x21 _).mono ?_; rintro e w' ⟨rfl, rfl⟩))
      go_roundw
      case rel => exact ⟨by simp, by first | rfl | trivial⟩
      case measure => simp [intOf]
    · clear i0 i1 i2
      go_wp2_with (first
        | (go_at_call 17; first | refine (Same_any a b a0 a1 b0 b1 _).mono ?_ | refine (Same_any a a a0 a1 a0 a1 _).mono ?_); rintro e w' ⟨rfl, rfl⟩
        | (go_at_call 18; refine (Same_ref a b a0 a1 b0 b1 _).mono ?_; rintro e w' ⟨rfl, rfl⟩)
        | (go_at_call 19; refine (Not_any a a0 a1 _).mono ?_; rintro e w' ⟨rfl, rfl⟩)
        | (go_at_call 20; refine (Not_ref a a0 a1 _).mono ?_; rintro e w' ⟨rfl, rfl⟩)
        | (go_at_call 21; refine (Turn_any a b c a0 a1 b0 b1 c0 c1 _).mono ?_; rintro e w' ⟨rfl, rfl⟩)
        | (go_at_call 22; refine (Turn_ref a b c a0 a1 b0 b1 c0 c1 _).mono ?_; rintro e w' ⟨rfl, rfl⟩)
        | (go_at_call 14; refine (works_any _).mono ?_; rintro e w1 ⟨rfl, B1⟩))
      go_ret; exact ⟨rfl, B1⟩

theorem own : ownKnob Try.prog.godebug = none := by kernel_rfl
theorem laidOut : laidOutB Try.prog = true := by kernel_rfl

set_option maxRecDepth 100000 in
theorem lifted (os : Os) (started : os.Started) (H : Type) (enc : TypeId × Value → H) :
    ReturnsInHanded {} Try.checked os 4 .any (Rows.sumNumbersSpec.pre6 enc Try.prog Try.f4 Rows.sumNumbersRow.domain false) (Rows.sumNumbersSpec.post enc Try.prog Try.f4 false true false false) := by
  refine returnsInHanded_of_change (C := Try.checked) own started (by kernel_rfl) Try.func4
    (ChangeSpec.witness6 (enc := enc) (C := Try.checked) false ⟨#[], #[.int .u64 0, .int .u16 0, .int .u16 0, .int .u16 0], []⟩ 8 (by kernel_rfl) (by kernel_rfl) (by kernel_rfl) (by kernel_rfl)) ?_
  intro W base args ds gs before hval0 hW hcnd _
  have hval : ∀ (j : Nat) t v, Try.f4.params[j]? = some t → args[j]? = some v → Value.okWide Try.prog W .any base t v := hval0
  have hW' := hW
  obtain ⟨p, q, hA0, hV, rfl, hfz, hnd⟩ := hW
  have hA : DataW.TrodAll enc Try.prog W 0 (fun _ => true) true Try.f4.params.toList args.toList ds p := hA0
  rw [Try.params4] at hA hval
  obtain ⟨v0, vs0, d0, ds0, p0, q0, hargs, rfl, rfl, h0, r0⟩ := trodAll_cons hA
  obtain ⟨v1, vs1, d1, ds1, p1, q1, rfl, rfl, rfl, h1, r1⟩ := trodAll_cons r0
  obtain ⟨v2, vs2, d2, ds2, p2, q2, rfl, rfl, rfl, h2, r2⟩ := trodAll_cons r1
  obtain ⟨v3, vs3, d3, ds3, p3, q3, rfl, rfl, rfl, h3, r3⟩ := trodAll_cons r2
  obtain ⟨rfl, rfl, rfl⟩ := trodAll_nil r3
  obtain rfl : args = #[v0, v1, v2, v3] := by cases args; simp_all
  obtain ⟨rfl, rfl⟩ := trodVars_none hV
  obtain ⟨a0, rfl, rfl, rfl, w0⟩ := open_int Try.underlying31 (hval 0 31 v0 rfl rfl) h0
  obtain ⟨a1, rfl, rfl, rfl, w1⟩ := open_int Try.underlying24 (hval 1 24 v1 rfl rfl) h1
  obtain ⟨a2, rfl, rfl, rfl, w2⟩ := open_int Try.underlying24 (hval 2 24 v2 rfl rfl) h2
  obtain ⟨a3, rfl, rfl, rfl, w3⟩ := open_int Try.underlying24 (hval 3 24 v3 rfl rfl) h3
  clear hA0 hval0
  simp only [List.append_nil] at hW'
  refine (walk a0 w0 a1 w1 a2 w2 a3 w3 W).mono fun e W' ⟨he, bel⟩ => ?_
  subst he
  exact ⟨_, rfl, _, _, _, [], _, [], hW', trodAll_mk1 (shut_bool Try.underlying4 _), (trodAll_cons_mk (shut_int Try.underlying31 w0) (trodAll_cons_mk (shut_int Try.underlying24 w1) (trodAll_cons_mk (shut_int Try.underlying24 w2) (trodAll_cons_mk (shut_int Try.underlying24 w3) trodAll_mk0)))), rfl, bel.frame _, fun h => by cases h⟩

theorem over : Rows.sumNumbersRow.holds Try.pinned (OpenSpec.ofChange Rows.sumNumbersSpec) :=
  OpenClaim.holds_of_wide 4 Try.f4 rfl rfl rfl rfl rfl rfl rfl ⟨rfl, rfl, rfl, rfl, rfl⟩ rfl rfl rfl rfl rfl (by kernel_rfl) Try.func4 (by kernel_rfl)
    (of_decide_eq_true (by kernel_rfl)) (by unfold Func.isWrapper; first | (rw [if_pos (by decide +kernel)]; kernel_rfl) | (rw [if_neg (by decide +kernel)]; exact ⟨rfl, rfl⟩))
    (fun os started H enc _ => lifted os started H enc)

theorem proved : Rows.SumNumbersSaid := over
#print axioms proved
end Go.Proofs.Ytfhiomgkmdijeaa.sumNumbers
