/-
  The code of a text under a key is as the document says (statement HmacTells, promise P7.1), of all keys and texts, without condition but the tables' own initial values, which the card ties to the program's text.
-/
import Derived.Test.YtaeedicihildoaaDoorShaOpen
import Derived.Test.YtaeedicihildoaaDoorHmacWorks
import Derived.Test.YtaeedicihildoaaDoorHmacRefOf
import Derived.Deep.QuietTactic
import Derived.BigQuiet
namespace Go.Proofs.YtaeedicihildoaaDoor.hmacTells
open Go.ChangeShapes Go.WideShapes Go.ChangeAt Go.RowKit
set_option linter.unusedVariables false

/-- A front of a text, 200 bytes at most. -/
theorem front (s : ByteArray) : ∃ (m : Nat) (z : ByteArray), z = s.extract 0 m ∧ z.size = m ∧ (if (200 : Int) < (s.size : Int) then (200 : Int) else (s.size : Int)) = (m : Int) ∧ (m : Int) ≤ s.size ∧ m ≤ 200 := by
  refine ⟨min s.size 200, _, rfl, ?_, ?_, ?_, ?_⟩
  · rw [ByteArray.size_extract]; omega
  · split <;> omega
  · omega
  · omega

set_option maxHeartbeats 2000000 in
set_option maxRecDepth 100000 in
theorem walk (a : ByteArray) (za : a.size ≤ 140737488351232) (b : ByteArray) (zb : b.size ≤ 140737488351232) (w : World) (ht : Tbl w) :
    Calls Tryd.prog 3 #[.string a, .string b] w fun e w' => e = .returned (.bool true) ∧ Below w.heap.size w w' := by
  obtain ⟨m0, F, hF, nF, mF, lF, uF⟩ := front a
  obtain ⟨m1, G, hG, nG, mG, lG, uG⟩ := front b
  have HT := Lib.hid ht
  have eF := hF.symm
  have eG := hG.symm
  clear ht hF hG
  go_enter Tryd.func3, Tryd.ntmps3
  go_wp2_with fail
  go_quiet (fail)
  have n0 : min (a.size : Int) 200 = (m0 : Int) := by split at mF <;> omega
  have n1 : min (b.size : Int) 200 = (m1 : Int) := by split at mG <;> omega
  rw [n0, n1, Int.toNat_natCast, Int.toNat_natCast, eF, eG]
  obtain ⟨W1, hW1⟩ : ∃ W1, W1 = w.drewN nq := ⟨_, rfl⟩
  have HT1 := Lib.hid (show Tbl W1 by rw [hW1]; exact HT.out.drewN nq)
  have HB1 := Lib.hid (show Below w.heap.size w W1 by rw [hW1]; exact below_drewN (Below.refl _ w) nq)
  rw [← hW1]
  have fs : F.size ≤ 200 := by omega
  have gs : G.size ≤ 200 := by omega
  obtain ⟨d, hd⟩ : ∃ d, d = code F.data.toList G.data.toList := ⟨_, rfl⟩
  have hd32 : d.length = 32 := by rw [hd, code_length]
  obtain ⟨D, hD⟩ : ∃ D, D = byv d := ⟨_, rfl⟩
  have HD := Lib.hid (show D = byv (code F.data.toList G.data.toList) by rw [hD, hd])
  have q0 : ∀ W, (Op.equalIn 10000 23 (.agg D) (.agg D)).run Tryd.prog W = .ok true W := fun W => by rw [hD, digest_eq _ _ hd32 hd32]; simp
  clear hW1 HT mF mG n0 n1 eF eG nF nG lF lG hd hD
  go_wp2_with fail
  refine (Of_any F G D HD.out W1 HT1.out (by omega) (by omega)).mono ?_
  rintro e W2 ⟨rfl, b2⟩
  have HT2 := Lib.hid (HT1.out.below b2)
  have HB2 := Lib.hid (HB1.out.trans (b2.mono HB1.out.size))
  clear b2 HT1 HB1
  go_wp2_with fail
  refine (OfR_any F G D HD.out W2 (by omega) (by omega)).mono ?_
  rintro e W3 ⟨rfl, b3⟩
  have HT3 := Lib.hid (HT2.out.below b3)
  have HB3 := Lib.hid (HB2.out.trans (b3.mono HB2.out.size))
  clear b3 HT2 HB2
  go_wp2_with fail
  refine (works_t W3 HT3.out).mono ?_
  rintro e W4 ⟨rfl, b4⟩
  have HB4 := Lib.hid (HB3.out.trans (b4.mono HB3.out.size))
  clear b4 HT3 HB3
  go_wp2_with fail
  go_ret
  exact ⟨rfl, HB4.out⟩

set_option maxRecDepth 100000 in
theorem lifted (os : Os) (started : os.Started) (H : Type) (enc : TypeId × Value → H) :
    ReturnsInHanded {} Tryd.checked os 3 .any (fun w args => (Rows.hmacTellsSpec.pre enc Tryd.prog Tryd.f3 [] false w args ∧ laidMetH Tryd.prog laid1 w) ∧ sizedMet enc Tryd.prog Tryd.f3 (OpenSpec.ofChange Rows.hmacTellsSpec) false w args)
      (Rows.hmacTellsSpec.post enc Tryd.prog Tryd.f3 false true false false) := by
  refine returnsInHanded_of_change_and (C := Tryd.checked) (X := fun w _ => laidMetH Tryd.prog laid1 w) (fun _ _ _ hh h => h.of_heap hh) own started (by kernel_rfl) Tryd.func3
    (ChangeSpec.witness_shaped (enc := enc) (C := Tryd.checked) (os := os) (X := fun w _ => laidMetH Tryd.prog laid1 w) false (World.doorLaid Tryd.prog 400 os) #[.string ByteArray.empty, .string ByteArray.empty] 8 rfl (World.shaped_of_RefB (by kernel_rfl) (by kernel_rfl)) (by kernel_rfl) (by kernel_rfl) (by kernel_rfl) (door_met os _)) ?_
  intro W base args ds gs before hval0 hW hcnd hsz0 hL _
  have hsz : (DataW.weightsEach Tryd.prog (Tryd.f3.params.toList ++ Rows.hmacTellsSpec.plain.varTypes Tryd.prog) (ds ++ gs)).all (· ≤ reachBytes) = true := hsz0
  have ht := table_of hL
  have hval : ∀ (j : Nat) t v, Tryd.f3.params[j]? = some t → args[j]? = some v → Value.okWide Tryd.prog W .any base t v := hval0
  have hW' := hW
  obtain ⟨p, q, hA0, hV, rfl, hfz, hnd⟩ := hW
  have hA : DataW.TrodAll enc Tryd.prog W 0 (fun _ => true) true Tryd.f3.params.toList args.toList ds p := hA0
  rw [Tryd.params3] at hA hval hsz
  obtain ⟨v0, vs0, d0, ds0, p0, q0, hargs, rfl, rfl, h0, r0⟩ := trodAll_cons hA
  obtain ⟨v1, vs1, d1, ds1, p1, q1, rfl, rfl, rfl, h1, r1⟩ := trodAll_cons r0
  obtain ⟨rfl, rfl, rfl⟩ := trodAll_nil r1
  obtain rfl : args = #[v0, v1] := by cases args; simp_all
  obtain ⟨rfl, rfl⟩ := trodVars_none hV
  obtain ⟨a0, rfl, rfl, rfl, w0⟩ := Go.ChangeMaps.open_string Tryd.underlying9 (hval 0 9 v0 rfl rfl) h0
  obtain ⟨a1, rfl, rfl, rfl, w1⟩ := Go.ChangeMaps.open_string Tryd.underlying9 (hval 1 9 v1 rfl rfl) h1
  have z0 : a0.size ≤ 140737488351232 := by have := sized_string hsz (j := 0) (t := 9) rfl rfl; simpa [reachBytes] using this
  have z1 : a1.size ≤ 140737488351232 := by have := sized_string hsz (j := 1) (t := 9) rfl rfl; simpa [reachBytes] using this
  clear hA0 hval0
  simp only [List.append_nil] at hW'
  refine (walk a0 z0 a1 z1 W ht).mono fun e W' ⟨he, bel⟩ => ?_
  subst he
  exact ⟨_, rfl, _, _, _, [], _, [], hW', trodAll_mk1 (shut_bool Tryd.underlying4 _), (trodAll_cons_mk (Go.ChangeMaps.shut_string Tryd.underlying9 w0) (trodAll_cons_mk (Go.ChangeMaps.shut_string Tryd.underlying9 w1) trodAll_mk0)), rfl, bel.frame _, fun h => by cases h⟩

theorem over : Rows.HmacTellsSaid :=
  OpenClaim.holds_of_wide 3 Tryd.f3 rfl rfl rfl rfl rfl rfl rfl ⟨rfl, rfl, rfl, rfl, rfl⟩ rfl rfl rfl rfl rfl (by kernel_rfl) Tryd.func3 (by kernel_rfl)
    (of_decide_eq_true (by kernel_rfl)) (by unfold Func.isWrapper; first | (rw [if_pos (by decide +kernel)]; kernel_rfl) | (rw [if_neg (by decide +kernel)]; exact ⟨rfl, rfl⟩))
    (fun os started H enc _ => lifted os started H enc)

theorem proved : Rows.HmacTellsCardSaid :=
  Claim7.holds_tied_plain_at .later [] [.data, .data] true _ false
    over (fun _ h => by cases h) (by kernel_rfl) (fun _ h => by cases h) hmacTells_row_tie rfl ⟨rfl, rfl⟩ (by kernel_rfl) rfl
    (fun f fn hf hfn => by
      obtain rfl : f = 3 := Option.some.inj ((show Tryd.prog.funcNamed "plait/plaitlaw07.HmacTells" = some 3 by kernel_rfl).symm.trans hf) |>.symm
      obtain rfl : fn = Tryd.f3 := (Option.some.inj (Tryd.func3.symm.trans hfn)).symm
      exact ⟨by kernel_rfl, fun j t ht => by
        rw [Tryd.params3] at ht
        have hm : t ∈ ([9, 9] : List TypeId) := by simpa using Array.mem_of_getElem? ht
        have hall : (([9, 9] : List TypeId).all fun u => !Tryd.prog.wantsStandIn u) = true := by kernel_rfl
        exact (show Tryd.prog.wantsStandIn t = false by simpa using List.all_eq_true.1 hall t hm)⟩)
    (by kernel_rfl)
#print axioms proved
end Go.Proofs.YtaeedicihildoaaDoor.hmacTells
