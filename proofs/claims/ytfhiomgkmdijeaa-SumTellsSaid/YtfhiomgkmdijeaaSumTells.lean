/-
  The sum of a text in parts, and whether it is whole, is as the document says: of all parts (twenty at most, of two hundred bytes at most) (statement SumTells, promises P3.1, P3.2), without condition.
-/
import Derived.Test.YtfhiomgkmdijeaaSumCut
import Derived.Test.YtfhiomgkmdijeaaRows
import Derived.WalkKit
import Derived.ProofKit
import Derived.OpenShut
import Derived.ShutString
import Derived.ChangeOld
import Derived.Below
import Derived.SizedLaws
namespace Go.Proofs.Ytfhiomgkmdijeaa.sumTells
open Go.ChangeShapes Go.WideShapes Go.ChangeAt Go.RowKit
open Go.ChangeMaps (open_string shut_string)
set_option linter.unusedVariables false


theorem open_parts {H : Type} {enc : TypeId × Value → H} {w : World} {base : Nat} {spare : Nat → Bool} {held : Bool} {r : Reach} {b0 : Nat} {v : Value} {d : DataW H} {p : List MemPlace}
    (hv : Value.okWide Try.prog w r b0 22 v) (h : DataW.Trod enc Try.prog w base spare held 22 v d p) :
    ∃ (A : Option Addr) (len cap : Nat) (f : Nat → ByteArray), v = .slice A len cap ∧ len ≤ 9223372036854775807 ∧ Parts w A len f := by
  obtain ⟨A, len, cap, rfl⟩ := okWide_slice Try.underlying22 hv
  obtain ⟨fuel, hf⟩ := h
  rcases open_strings Try.underlying22 Try.underlying9 (by kernel_rfl) hf with ⟨h0, _⟩ | ⟨a, len', cap', ss, hcs, _, hl, hm, hz, _, hcell, hsz⟩
  · simp [Value.cells] at h0
    obtain ⟨rfl, rfl, rfl⟩ := h0
    exact ⟨none, 0, 0, fun _ => ByteArray.empty, rfl, by omega, fun i hi => absurd hi (by omega)⟩
  · simp [Value.cells] at hcs
    obtain ⟨rfl, rfl, rfl⟩ := hcs
    refine ⟨some a, len, cap, fun i => ss.getD i ByteArray.empty, rfl, by simp [maxLen] at hm; omega, fun i hi => ?_⟩
    have hi' : i < ss.length := by rw [hz]; split <;> omega
    refine ⟨a, rfl, hcell i hi', ?_⟩
    have hmem : ss.getD i ByteArray.empty ∈ ss := by rw [List.getD_eq_getElem?_getD, List.getElem?_eq_getElem hi']; exact List.getElem_mem hi'
    have := hsz _ hmem
    simpa [maxLen] using this

set_option maxHeartbeats 4000000 in
set_option maxRecDepth 100000 in
theorem walk (A : Option Addr) (len cap : Nat) (hl : len ≤ 9223372036854775807) (f : Nat → ByteArray) (w : World) (hp : Parts w A len f) :
    Calls Try.prog 3 #[.slice A len cap] w fun e w' => e = .returned (.bool true) ∧ Below w.heap.size w w' := by
  obtain ⟨n, hn⟩ : ∃ n, n = min len 20 := ⟨_, rfl⟩
  have HN := Lib.hid hn
  have HP := Lib.hid hp
  clear hn hp
  obtain ⟨ss, hss⟩ : ∃ ss, ss = shorts f n := ⟨_, rfl⟩
  have h1 : (flat ss).length ≤ 1099511627776 := by have := shorts_flat f n; have := HN.out; rw [hss]; omega
  have h2 : ss.length ≤ 1099511627776 := by rw [hss, shorts_length]; have := HN.out; omega
  obtain ⟨q, hq⟩ : ∃ q, q = txt (flat ss) := ⟨_, rfl⟩
  have h3 : q.size ≤ 1099511627776 := by rw [hq, txt_size]; exact h1
  have hqd : q.data.toList = flat ss := by rw [hq]
  obtain ⟨r, hr⟩ : ∃ r, fold (tot (flat ss)) = r := ⟨_, rfl⟩
  have HQ := Lib.hid hq
  have HQD := Lib.hid hqd
  have HR := Lib.hid hr
  have HS := Lib.hid hss
  clear hq hqd hr hss
  go_enter Try.func3, Try.ntmps3
  go_wp2_with fail
  refine (cut_any A len cap f n HN.out w hl HP.out).mono ?_
  rintro e w1 ⟨v, rfl, hrow, hb⟩
  rw [← HS.out] at hrow
  have HROW := Lib.hid hrow
  have HB := Lib.hid hb
  clear hrow hb
  go_wp2_with fail
  refine (All_ref v ss _ HROW.out h1 h2).mono ?_
  rintro e w' ⟨rfl, rfl⟩
  rw [← HQ.out]
  go_wp2_with fail
  refine (Of_ref q _ h3).mono ?_
  rintro e w2 ⟨rfl, b2⟩
  rw [HQD.out, HR.out]
  have HROW2 := Lib.hid (Row.below HROW.out b2)
  have HB2 := Lib.hid (below_then HB.out b2)
  clear b2
  go_wp2_with fail
  refine (Of_any v ss r _ HROW2.out h1 h2 HR.out).mono ?_
  rintro e w3 ⟨rfl, b3⟩
  have HROW3 := Lib.hid (Row.below HROW2.out b3)
  have HB3 := Lib.hid (below_then HB2.out b3)
  clear b3
  go_wp2_with fail
  refine (Whole_any v ss r _ HROW3.out h1 h2 HR.out).mono ?_
  rintro e w4 ⟨rfl, b4⟩
  have HB4 := Lib.hid (below_then HB3.out b4)
  clear b4
  go_wp2_with fail
  refine (works_any _).mono ?_
  rintro e w5 ⟨rfl, b5⟩
  have HB5 := Lib.hid (below_then HB4.out b5)
  clear b5
  go_wp2
  go_ret; exact ⟨rfl, HB5.out⟩

theorem own : ownKnob Try.prog.godebug = none := by kernel_rfl
theorem laidOut : laidOutB Try.prog = true := by kernel_rfl

set_option maxRecDepth 100000 in
theorem lifted (os : Os) (started : os.Started) (H : Type) (enc : TypeId × Value → H) :
    ReturnsInHanded {} Try.checked os 3 .any (Rows.sumTellsSpec.pre6 enc Try.prog Try.f3 Rows.sumTellsRow.domain false) (Rows.sumTellsSpec.post enc Try.prog Try.f3 false true false false) := by
  refine returnsInHanded_of_change (C := Try.checked) own started (by kernel_rfl) Try.func3
    (ChangeSpec.witness6 (enc := enc) (C := Try.checked) false ⟨#[], #[.slice none 0 0], []⟩ 8 (by kernel_rfl) (by kernel_rfl) (by kernel_rfl) (by kernel_rfl)) ?_
  intro W base args ds gs before hval0 hW hcnd _
  have hval : ∀ (j : Nat) t v, Try.f3.params[j]? = some t → args[j]? = some v → Value.okWide Try.prog W .any base t v := hval0
  have hW' := hW
  obtain ⟨p, q, hA0, hV, rfl, hfz, hnd⟩ := hW
  have hA : DataW.TrodAll enc Try.prog W 0 (fun _ => true) true Try.f3.params.toList args.toList ds p := hA0
  rw [Try.params3] at hA hval
  obtain ⟨v0, vs0, d0, ds0, p0, q0, hargs, rfl, rfl, h0, r0⟩ := trodAll_cons hA
  obtain ⟨rfl, rfl, rfl⟩ := trodAll_nil r0
  obtain rfl : args = #[v0] := by cases args; simp_all
  obtain ⟨rfl, rfl⟩ := trodVars_none hV
  have k0 := h0
  have lt0 : ∀ x ∈ p0, x.block < W.heap.size := by obtain ⟨m, hm⟩ := k0; exact DataW.trod_lt m _ _ _ hm
  obtain ⟨A, len, cap, f, rfl, hl, hp⟩ := open_parts (hval 0 22 v0 rfl rfl) h0
  clear hA0 hval0
  simp only [List.append_nil] at hW'
  refine (walk A len cap hl f W hp).mono fun e W' ⟨he, bel⟩ => ?_
  subst he
  exact ⟨_, rfl, _, _, _, [], _, [], hW', trodAll_mk1 (shut_bool Try.underlying4 _), (trodAll_cons_mk (Below.trod laidOut (by kernel_rfl) (of_decide_eq_true (by kernel_rfl)) k0 bel lt0) trodAll_mk0), rfl, bel.frame _, fun h => by cases h⟩

theorem over : Rows.sumTellsRow.holds Try.pinned (OpenSpec.ofChange Rows.sumTellsSpec) :=
  OpenClaim.holds_of_wide 3 Try.f3 rfl rfl rfl rfl rfl rfl rfl ⟨rfl, rfl, rfl, rfl, rfl⟩ rfl rfl rfl rfl rfl (by kernel_rfl) Try.func3 (by kernel_rfl)
    (of_decide_eq_true (by kernel_rfl)) (by unfold Func.isWrapper; first | (rw [if_pos (by decide +kernel)]; kernel_rfl) | (rw [if_neg (by decide +kernel)]; exact ⟨rfl, rfl⟩))
    (fun os started H enc _ => lifted os started H enc)

theorem proved : Rows.SumTellsSaid := over
#print axioms proved
end Go.Proofs.Ytfhiomgkmdijeaa.sumTells
