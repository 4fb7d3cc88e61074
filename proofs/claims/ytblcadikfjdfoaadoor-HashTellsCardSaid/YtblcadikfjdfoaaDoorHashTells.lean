/-
  The digest of a text is as the document's own reckoning says; so is that of the text with one byte more, and of its front (statement HashTells, promise P6.1), of all texts, bytes and cuts, without condition but the tables' own initial values, which the card ties to the program's text.
-/
import Derived.Test.YtblcadikfjdfoaaDoorShaOpen
import Derived.Test.YtblcadikfjdfoaaDoorShaEq
import Derived.Test.YtblcadikfjdfoaaDoorShaRefS
import Derived.Deep.QuietTactic
import Derived.BigQuiet
namespace Go.Proofs.YtblcadikfjdfoaaDoor.hashTells
open Go.ChangeShapes Go.WideShapes Go.ChangeAt Go.RowKit
set_option linter.unusedVariables false

/-- A front of a text, 200 bytes at most. -/
theorem front (s : ByteArray) : ∃ (m : Nat) (z : ByteArray), z = s.extract 0 m ∧ z.size = m ∧ (if (200 : Int) < (s.size : Int) then (200 : Int) else (s.size : Int)) = (m : Int) ∧ (m : Int) ≤ s.size ∧ m ≤ 200 := by
  refine ⟨min s.size 200, _, rfl, ?_, ?_, ?_, ?_⟩
  · rw [ByteArray.size_extract]; omega
  · split <;> omega
  · omega
  · omega
/-- Where the front of it ends. -/
theorem cutAt (F : ByteArray) (h : F.size ≤ 200) (a : Int) (h0 : 0 ≤ a) : ∃ (m : Nat) (z : ByteArray), z = F.extract 0 m ∧ z.size = m ∧ a % ((F.size : Int) + 1) = (m : Int) ∧ (m : Int) ≤ F.size ∧ m ≤ 200 := by
  have e : ((F.size : Int) + 1) = ((F.size + 1 : Nat) : Int) := by omega
  obtain ⟨k, rfl⟩ := Int.eq_ofNat_of_zero_le h0
  have hlt : k % (F.size + 1) < F.size + 1 := Nat.mod_lt _ (by omega)
  refine ⟨k % (F.size + 1), _, rfl, ?_, ?_, ?_, ?_⟩
  · rw [ByteArray.size_extract]; omega
  · rw [e, Int.natCast_emod]
  · omega
  · omega
/-- One byte, made a text. -/
theorem conv_one (w : World) (c : UInt8) : (convert 22 9 (.slice (some ⟨w.heap.size, 0, none⟩) 1 1)).run Tryd.prog (w.alloc (.cells #[.int .u8 (c.toNat : Int)] 5)) = .ok (.string (txt [c])) (w.alloc (.cells #[.int .u8 (c.toNat : Int)] 5)) :=
  run_convert_bytes_back _ 22 9 5 ⟨w.heap.size, 0, none⟩ 1 [c] Tryd.underlying22 Tryd.underlying5 Tryd.underlying9 fun j hj => by
    obtain rfl : j = 0 := by simpa using hj
    exact (Blk.new w 5 #[.int .u8 (c.toNat : Int)]).cell 0
theorem Sum_refL (s : ByteArray) (l : List UInt8) (D : Array Value) (hs : s.data.toList = l) (hD : D = byv (digest l)) (hl : s.size ≤ 100000) (w : World) :
    Calls Tryd.prog 10 #[.string s] w fun e w' => e = .returned (.agg D) ∧ Below w.heap.size w w' := by subst hD hs; exact Sum_ref s hl w

set_option maxHeartbeats 4000000 in
set_option maxRecDepth 100000 in
theorem walk (a0 : ByteArray) (z0 : a0.size ≤ 140737488351232) (a1 : Int) (r1 : 0 ≤ a1 ∧ a1 ≤ 255) (a2 : Int) (r2 : 0 ≤ a2 ∧ a2 ≤ 255) (w : World) (ht : Tbl w) :
    Calls Tryd.prog 3 #[.string a0, .int .u8 a1, .int .u8 a2] w fun e w' => e = .returned (.bool true) ∧ Below w.heap.size w w' := by
  obtain ⟨c, rfl⟩ : ∃ c : UInt8, a1 = (c.toNat : Int) := ⟨UInt8.ofNat a1.toNat, by simp; omega⟩
  obtain ⟨m0, F, hF, nF, mF, lF, uF⟩ := front a0
  obtain ⟨m1, G, hG, nG, mG, lG, uG⟩ := cutAt F (by omega) a2 r2.1
  have h1 := ht.lt
  have eF := hF.symm
  have eG := hG.symm
  obtain ⟨D0, hD0⟩ : ∃ D, D = byv (digest F.data.toList) := ⟨_, rfl⟩
  obtain ⟨L, hL⟩ : ∃ L, L = F ++ txt [c] := ⟨_, rfl⟩
  obtain ⟨D1, hD1⟩ : ∃ D, D = byv (digest L.data.toList) := ⟨_, rfl⟩
  obtain ⟨D2, hD2⟩ : ∃ D, D = byv (digest G.data.toList) := ⟨_, rfl⟩
  have q0 : ∀ W, (Op.equalIn 10000 24 (.agg D0) (.agg D0)).run Tryd.prog W = .ok true W := fun W => by rw [hD0, digest_eq _ _ (digest_length _) (digest_length _)]; simp
  have q1 : ∀ W, (Op.equalIn 10000 24 (.agg D1) (.agg D1)).run Tryd.prog W = .ok true W := fun W => by rw [hD1, digest_eq _ _ (digest_length _) (digest_length _)]; simp
  have q2 : ∀ W, (Op.equalIn 10000 24 (.agg D2) (.agg D2)).run Tryd.prog W = .ok true W := fun W => by rw [hD2, digest_eq _ _ (digest_length _) (digest_length _)]; simp
  have sL : L.size ≤ 300 := by rw [hL, ByteArray.size_append, nF]; have : (txt [c]).size = 1 := rfl; omega
  have sF : F.size ≤ 300 := by omega
  have sG : G.size ≤ 300 := by omega
  have hcv := conv_one w c
  have eL := hL.symm
  obtain ⟨W1, hW1⟩ : ∃ W1, W1 = w.alloc (.cells #[.int .u8 (c.toNat : Int)] 5) := ⟨_, rfl⟩
  have HT1 := Lib.hid (show Tbl W1 by rw [hW1]; exact ht.alloc _)
  have HB1 := Lib.hid (show Below w.heap.size w W1 by rw [hW1]; exact (Below.refl _ w).alloc (Nat.le_refl _) _)
  have HW1 := Lib.hid hW1
  have HD0 := Lib.hid hD0
  have HD1 := Lib.hid hD1
  have HD2 := Lib.hid hD2
  clear ht hF nF hG nG hL hD0 hD1 hD2 hW1
  go_enter Tryd.func3, Tryd.ntmps3
  go_wp2_with fail
  rw [← HW1.out]
  clear HW1 hcv
  refine (SumL F _ D0 W1 rfl HD0.out HT1.out (by rw [len_data]; omega)).mono ?_
  rintro e W2 ⟨rfl, b2⟩
  have HT2 := Lib.hid (HT1.out.below b2)
  have HB2 := Lib.hid (HB1.out.trans (b2.mono HB1.out.size))
  clear b2 HT1 HB1
  go_wp2_with fail
  refine (Sum_refL F _ D0 rfl HD0.out (by omega) W2).mono ?_
  rintro e W3 ⟨rfl, b3⟩
  have HT3 := Lib.hid (HT2.out.below b3)
  have HB3 := Lib.hid (HB2.out.trans (b3.mono HB2.out.size))
  clear b3 HT2 HB2
  go_wp2_with fail
  refine (SumL L _ D1 W3 rfl HD1.out HT3.out (by rw [len_data]; omega)).mono ?_
  rintro e W4 ⟨rfl, b4⟩
  have HT4 := Lib.hid (HT3.out.below b4)
  have HB4 := Lib.hid (HB3.out.trans (b4.mono HB3.out.size))
  clear b4 HT3 HB3
  go_wp2_with fail
  refine (Sum_refL L _ D1 rfl HD1.out (by omega) W4).mono ?_
  rintro e W5 ⟨rfl, b5⟩
  have HT5 := Lib.hid (HT4.out.below b5)
  have HB5 := Lib.hid (HB4.out.trans (b5.mono HB4.out.size))
  clear b5 HT4 HB4
  go_wp2_with fail
  refine (SumL G _ D2 W5 rfl HD2.out HT5.out (by rw [len_data]; omega)).mono ?_
  rintro e W6 ⟨rfl, b6⟩
  have HT6 := Lib.hid (HT5.out.below b6)
  have HB6 := Lib.hid (HB5.out.trans (b6.mono HB5.out.size))
  clear b6 HT5 HB5
  go_wp2_with fail
  refine (Sum_refL G _ D2 rfl HD2.out (by omega) W6).mono ?_
  rintro e W7 ⟨rfl, b7⟩
  have HT7 := Lib.hid (HT6.out.below b7)
  have HB7 := Lib.hid (HB6.out.trans (b7.mono HB6.out.size))
  clear b7 HT6 HB6
  go_wp2_with fail
  refine (works_t W7 HT7.out).mono ?_
  rintro e W8 ⟨rfl, b8⟩
  have HB8 := Lib.hid (HB7.out.trans (b8.mono HB7.out.size))
  clear b8 HT7 HB7
  go_wp2_with fail
  go_ret
  exact ⟨rfl, HB8.out⟩

set_option maxRecDepth 100000 in
theorem lifted (os : Os) (started : os.Started) (H : Type) (enc : TypeId × Value → H) :
    ReturnsInHanded {} Tryd.checked os 3 .any (fun w args => (Rows.hashTellsSpec.pre enc Tryd.prog Tryd.f3 [] false w args ∧ laidMetH Tryd.prog laid1 w) ∧ sizedMet enc Tryd.prog Tryd.f3 (OpenSpec.ofChange Rows.hashTellsSpec) false w args)
      (Rows.hashTellsSpec.post enc Tryd.prog Tryd.f3 false true false false) := by
  refine returnsInHanded_of_change_and (C := Tryd.checked) (X := fun w _ => laidMetH Tryd.prog laid1 w) (fun _ _ _ hh h => h.of_heap hh) own started (by kernel_rfl) Tryd.func3
    (ChangeSpec.witness_shaped (enc := enc) (C := Tryd.checked) (os := os) (X := fun w _ => laidMetH Tryd.prog laid1 w) false (World.doorLaid Tryd.prog 400 os) #[.string ByteArray.empty, .int .u8 0, .int .u8 0] 8 rfl (World.shaped_of_RefB (by kernel_rfl) (by kernel_rfl)) (by kernel_rfl) (by kernel_rfl) (by kernel_rfl) (door_met os _)) ?_
  intro W base args ds gs before hval0 hW hcnd hsz0 hL _
  have hsz : (DataW.weightsEach Tryd.prog (Tryd.f3.params.toList ++ Rows.hashTellsSpec.plain.varTypes Tryd.prog) (ds ++ gs)).all (· ≤ reachBytes) = true := hsz0
  have ht := table_of hL
  have hval : ∀ (j : Nat) t v, Tryd.f3.params[j]? = some t → args[j]? = some v → Value.okWide Tryd.prog W .any base t v := hval0
  have hW' := hW
  obtain ⟨p, q, hA0, hV, rfl, hfz, hnd⟩ := hW
  have hA : DataW.TrodAll enc Tryd.prog W 0 (fun _ => true) true Tryd.f3.params.toList args.toList ds p := hA0
  rw [Tryd.params3] at hA hval hsz
  obtain ⟨v0, vs0, d0, ds0, p0, q0, hargs, rfl, rfl, h0, r0⟩ := trodAll_cons hA
  obtain ⟨v1, vs1, d1, ds1, p1, q1, rfl, rfl, rfl, h1, r1⟩ := trodAll_cons r0
  obtain ⟨v2, vs2, d2, ds2, p2, q2, rfl, rfl, rfl, h2, r2⟩ := trodAll_cons r1
  obtain ⟨rfl, rfl, rfl⟩ := trodAll_nil r2
  obtain rfl : args = #[v0, v1, v2] := by cases args; simp_all
  obtain ⟨rfl, rfl⟩ := trodVars_none hV
  obtain ⟨a0, rfl, rfl, rfl, w0⟩ := Go.ChangeMaps.open_string Tryd.underlying9 (hval 0 9 v0 rfl rfl) h0
  obtain ⟨a1, rfl, rfl, rfl, w1⟩ := open_int Tryd.underlying5 (hval 1 5 v1 rfl rfl) h1
  obtain ⟨a2, rfl, rfl, rfl, w2⟩ := open_int Tryd.underlying5 (hval 2 5 v2 rfl rfl) h2
  have z0 : a0.size ≤ 140737488351232 := by have := sized_string hsz (j := 0) (t := 9) rfl rfl; simpa [reachBytes] using this
  clear hA0 hval0
  simp only [List.append_nil] at hW'
  refine (walk a0 z0 a1 (bounds_u8 w1) a2 (bounds_u8 w2) W ht).mono fun e W' ⟨he, bel⟩ => ?_
  subst he
  exact ⟨_, rfl, _, _, _, [], _, [], hW', trodAll_mk1 (shut_bool Tryd.underlying4 _), (trodAll_cons_mk (Go.ChangeMaps.shut_string Tryd.underlying9 w0) (trodAll_cons_mk (shut_int Tryd.underlying5 w1) (trodAll_cons_mk (shut_int Tryd.underlying5 w2) trodAll_mk0))), rfl, bel.frame _, fun h => by cases h⟩

theorem over : Rows.HashTellsSaid :=
  OpenClaim.holds_of_wide 3 Tryd.f3 rfl rfl rfl rfl rfl rfl rfl ⟨rfl, rfl, rfl, rfl, rfl⟩ rfl rfl rfl rfl rfl (by kernel_rfl) Tryd.func3 (by kernel_rfl)
    (of_decide_eq_true (by kernel_rfl)) (by unfold Func.isWrapper; first | (rw [if_pos (by decide +kernel)]; kernel_rfl) | (rw [if_neg (by decide +kernel)]; exact ⟨rfl, rfl⟩))
    (fun os started H enc _ => lifted os started H enc)

theorem proved : Rows.HashTellsCardSaid :=
  Claim7.holds_tied_plain_at .later [] [.data, .data] true _ false
    over (fun _ h => by cases h) (by kernel_rfl) (fun _ h => by cases h) hashTells_row_tie rfl ⟨rfl, rfl⟩ (by kernel_rfl) rfl
    (fun f fn hf hfn => by
      obtain rfl : f = 3 := Option.some.inj ((show Tryd.prog.funcNamed "plait/plaitlaw06.HashTells" = some 3 by kernel_rfl).symm.trans hf) |>.symm
      obtain rfl : fn = Tryd.f3 := (Option.some.inj (Tryd.func3.symm.trans hfn)).symm
      exact ⟨by kernel_rfl, fun j t ht => by
        rw [Tryd.params3] at ht
        have hm : t ∈ ([9, 5, 5] : List TypeId) := by simpa using Array.mem_of_getElem? ht
        have hall : (([9, 5, 5] : List TypeId).all fun u => !Tryd.prog.wantsStandIn u) = true := by kernel_rfl
        exact (show Tryd.prog.wantsStandIn t = false by simpa using List.all_eq_true.1 hall t hm)⟩)
    (by kernel_rfl)
#print axioms proved
end Go.Proofs.YtblcadikfjdfoaaDoor.hashTells
