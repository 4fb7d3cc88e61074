/-
  What a hash to which pieces are written tells, behind each, is as the document's own reckoning says of all of them (statement HashWrites, promise P6.2), of all rows of pieces, without condition but the tables' own initial values, which the card ties to the program's text.
-/
import Derived.Test.YtblcadikfjdfoaaDoorShaOpen
import Derived.Test.YtblcadikfjdfoaaDoorShaEq
import Derived.Test.YtblcadikfjdfoaaDoorShaRefS
import Derived.SliceStrings
import Derived.Deep.QuietTactic
import Derived.BigQuiet
namespace Go.Proofs.YtblcadikfjdfoaaDoor.hashWrites
open Go.ChangeShapes Go.WideShapes Go.ChangeAt Go.RowKit
set_option linter.unusedVariables false

/-- Texts, as an argument. -/
def Prts (w : World) (A : Option Addr) (len : Nat) : Prop := ∀ i, i < len → ∃ (ad : Addr) (s : ByteArray), A = some ad ∧ w.cell? (ad.add i) = some (.string s) ∧ s.size ≤ 9223372036854775807
theorem Prts.below {w W : World} {A : Option Addr} {len : Nat} (h : Prts w A len) (b : Below w.heap.size w W) : Prts W A len := fun i hi => by
  obtain ⟨ad, s, e, hc, hs⟩ := h i hi
  exact ⟨ad, s, e, (b.cell (World.block_lt_of_cell? w _ hc)).trans hc, hs⟩
theorem open_parts {H : Type} {enc : TypeId × Value → H} {w : World} {base : Nat} {spare : Nat → Bool} {held : Bool} {r : Reach} {b0 : Nat} {v : Value} {d : DataW H} {p : List MemPlace}
    (hv : Value.okWide Tryd.prog w r b0 28 v) (h : DataW.Trod enc Tryd.prog w base spare held 28 v d p) :
    ∃ (A : Option Addr) (len cap : Nat), v = .slice A len cap ∧ len ≤ 9223372036854775807 ∧ Prts w A len := by
  obtain ⟨A, len, cap, rfl⟩ := okWide_slice Tryd.underlying28 hv
  obtain ⟨fuel, hf⟩ := h
  rcases open_strings Tryd.underlying28 Tryd.underlying9 (by kernel_rfl) hf with ⟨h0, _⟩ | ⟨a, len', cap', ss, hcs, _, hl, hm, hz, _, hcell, hsz⟩
  · simp [Value.cells] at h0
    obtain ⟨rfl, rfl, rfl⟩ := h0
    exact ⟨none, 0, 0, rfl, by omega, fun i hi => absurd hi (by omega)⟩
  · simp [Value.cells] at hcs
    obtain ⟨rfl, rfl, rfl⟩ := hcs
    refine ⟨some a, len, cap, rfl, by simp [maxLen] at hm; omega, fun i hi => ?_⟩
    have hi' : i < ss.length := by rw [hz]; split <;> omega
    refine ⟨a, ss.getD i ByteArray.empty, rfl, hcell i hi', ?_⟩
    have hmem : ss.getD i ByteArray.empty ∈ ss := by rw [List.getD_eq_getElem?_getD, List.getElem?_eq_getElem hi']; exact List.getElem_mem hi'
    have := hsz _ hmem
    simpa [maxLen] using this
/-- A front of a text, 100 bytes at most. -/
theorem front (s : ByteArray) : ∃ (m : Nat) (z : ByteArray), z = s.extract 0 m ∧ z.size = m ∧ (if (100 : Int) < (s.size : Int) then (100 : Int) else (s.size : Int)) = (m : Int) ∧ (m : Int) ≤ s.size ∧ m ≤ 100 := by
  refine ⟨min s.size 100, _, rfl, ?_, ?_, ?_, ?_⟩
  · rw [ByteArray.size_extract]; omega
  · split <;> omega
  · omega
  · omega
theorem Sum_refL (s : ByteArray) (l : List UInt8) (D : Array Value) (hs : s.data.toList = l) (hD : D = byv (digest l)) (hl : s.size ≤ 100000) (w : World) :
    Calls Tryd.prog 10 #[.string s] w fun e w' => e = .returned (.agg D) ∧ Below w.heap.size w w' := by subst hD hs; exact Sum_ref s hl w
/-- So far: j pieces were written, T together. -/
def WrAt (w W : World) (gh len : Nat) (t i : Value) : Prop :=
  ∃ (j : Nat) (T : ByteArray), j ≤ len ∧ j ≤ 6 ∧ i = .int .i64 (j : Int) ∧ t = .string T ∧ T.size ≤ 100 * j ∧ Hsh W gh T.data.toList ∧ Tbl W ∧ Below gh w W

set_option maxHeartbeats 4000000 in
set_option maxRecDepth 100000 in
theorem walk (A : Option Addr) (len cap : Nat) (hl : len ≤ 9223372036854775807) (w : World) (ht : Tbl w) (hp : Prts w A len) :
    Calls Tryd.prog 4 #[.slice A len cap] w fun e w' => e = .returned (.bool true) ∧ Below w.heap.size w w' := by
  have h1 := ht.lt
  have HT := Lib.hid ht
  have HP := Lib.hid hp
  clear ht hp
  go_enter Tryd.func4, Tryd.ntmps4
  go_wp2_with fail
  refine (New_any w HT.out).mono ?_
  rintro e W1 ⟨rfl, hh, b1⟩
  have HH1 := Lib.hid hh
  have HT1 := Lib.hid (HT.out.below b1)
  have HB1 := Lib.hid b1
  clear hh b1 HT
  go_wp2_with fail
  refine (works_t W1 HT1.out).mono ?_
  rintro e W2 ⟨rfl, b2⟩
  have HH2 := Lib.hid (HH1.out.below b2 HH1.out.lt)
  have HT2 := Lib.hid (HT1.out.below b2)
  have HB2 := Lib.hid (HB1.out.trans (b2.mono HB1.out.size))
  clear b2 HH1 HT1 HB1
  go_wp2_with fail
  obtain ⟨gh, hgh⟩ : ∃ gh, gh = w.heap.size := ⟨_, rfl⟩
  rw [← hgh] at HH2 HB2 h1 ⊢
  have HGH := Lib.hid hgh
  clear hgh
  go_loopw [4, 5] (fun t i wr => WrAt w wr gh len t i) (fun _ i _ => 6 - (intOf i).toNat)
  case atStart => exact ⟨0, ByteArray.empty, Nat.zero_le _, by decide, rfl, rfl, by decide, HH2.out, HT2.out, HB2.out⟩
  case round =>
    obtain ⟨j, T, hj, hj6, rfl, rfl, hTs, hh, ht, hb⟩ := hrel
    have HH := Lib.hid hh
    have HTT := Lib.hid ht
    have HB := Lib.hid hb
    clear hh ht hb HH2 HT2 HB2
    by_cases hlt : j < len
    · by_cases hl6 : j < 6
      · obtain ⟨ad, s, rfl, c, hs⟩ := (HP.out.below (by rw [← HGH.out]; exact HB.out)) j hlt
        obtain ⟨m0, F, hF, nF, mF, lF, uF⟩ := front s
        have eF := hF.symm
        obtain ⟨T1, hT1⟩ : ∃ T1, T1 = T ++ F := ⟨_, rfl⟩
        have sT : T.size ≤ 600 := by omega
        have sF : F.size ≤ 100 := by omega
        have sT1 : T1.size ≤ 100 * (j + 1) := by rw [hT1, ByteArray.size_append]; omega
        have eT1 := hT1.symm
        have dT1 : T.data.toList ++ F.data.toList = T1.data.toList := by rw [hT1, ByteArray.data_append, Array.toList_append]
        have DT1 := Lib.hid dT1
        clear hF hT1 dT1
        go_wp2_with fail
        go_quiet (fail)
        obtain ⟨W3, hW3⟩ : ∃ W3, W3 = wr.drewN nq := ⟨_, rfl⟩
        rw [← hW3]
        have HH3 := Lib.hid (show Hsh W3 gh T.data.toList by rw [hW3]; exact HH.out.same rfl)
        have HT3 := Lib.hid (show Tbl W3 by rw [hW3]; exact HTT.out.drewN _)
        have HB3 := Lib.hid (show Below gh w W3 by rw [hW3]; exact below_drewN HB.out _)
        clear hW3 c mF eF HH HTT HB
        go_wp2_with fail
        refine (Write_any gh T.data.toList F W3 h1 (by rw [len_data]; omega) HT3.out HH3.out).mono ?_
        rintro e W4 ⟨rfl, h4, g4⟩
        rw [DT1.out] at h4
        have HH4 := Lib.hid h4
        have HT4 := Lib.hid (HT3.out.grown g4 h1)
        have HB4 := Lib.hid (HB3.out.trans (below_of_only g4 (Nat.le_refl _) (Nat.le_of_lt HH3.out.lt)))
        clear h4 g4 HH3 HT3 HB3 DT1
        obtain ⟨D, hD⟩ : ∃ D, D = byv (digest T1.data.toList) := ⟨_, rfl⟩
        have q1 : ∀ W, (Op.equalIn 10000 24 (.agg D) (.agg D)).run Tryd.prog W = .ok true W := fun W => by rw [hD, digest_eq _ _ (digest_length _) (digest_length _)]; simp
        have HD := Lib.hid hD
        clear hD
        go_wp2_with fail
        refine (DigestL gh T1.data.toList D W4 HD.out HT4.out (by rw [len_data]; omega) HH4.out).mono ?_
        rintro e W5 ⟨rfl, b5⟩
        have HH5 := Lib.hid (HH4.out.below b5 HH4.out.lt)
        have HT5 := Lib.hid (HT4.out.below b5)
        have HB5 := Lib.hid (HB4.out.trans (b5.mono (Nat.le_of_lt HH4.out.lt)))
        clear b5 HH4 HT4 HB4
        go_wp2_with fail
        refine (Sum_refL T1 _ D rfl HD.out (by omega) W5).mono ?_
        rintro e W6 ⟨rfl, b6⟩
        have HH6 := Lib.hid (HH5.out.below b6 HH5.out.lt)
        have HT6 := Lib.hid (HT5.out.below b6)
        have HB6 := Lib.hid (HB5.out.trans (b6.mono (Nat.le_of_lt HH5.out.lt)))
        clear b6 HH5 HT5 HB5
        go_wp2_with fail
        refine (Len_any gh T1.data.toList W6 HH6.out).mono ?_
        rintro e W7 ⟨rfl, rfl⟩
        rw [len_data]
        have hst : WrAt w W6 gh len (.string T1) (.int .i64 ((j : Int) + 1)) := ⟨j + 1, T1, by omega, by omega, by rw [Int.natCast_add]; rfl, rfl, sT1, HH6.out, HT6.out, HB6.out⟩
        have HST := Lib.hid hst
        clear hst HH6 HT6 HB6
        go_wp2_with fail
        go_roundw
        case rel => exact HST.out
        case measure => simp [intOf]; omega
      · obtain rfl : j = 6 := by omega
        go_wp2_with fail
        obtain ⟨D, hD⟩ : ∃ D, D = byv (digest T.data.toList) := ⟨_, rfl⟩
        have q1 : ∀ W, (Op.equalIn 10000 24 (.agg D) (.agg D)).run Tryd.prog W = .ok true W := fun W => by rw [hD, digest_eq _ _ (digest_length _) (digest_length _)]; simp
        have HD := Lib.hid hD
        clear hD
        refine (DigestL gh T.data.toList D wr HD.out HTT.out (by rw [len_data]; omega) HH.out).mono ?_
        rintro e W6 ⟨rfl, b6⟩
        have hlt6 : gh ≤ W6.heap.size := Nat.le_trans (Nat.le_of_lt HH.out.lt) b6.size
        have HB6 := Lib.hid (HB.out.trans (b6.mono (Nat.le_of_lt HH.out.lt)))
        clear b6 HTT HH HB
        go_wp2_with fail
        refine (Sum_refL T _ D rfl HD.out (by omega) W6).mono ?_
        rintro e W7 ⟨rfl, b7⟩
        have HB7 := Lib.hid (HB6.out.trans (b7.mono hlt6))
        clear b7 HB6
        go_wp2_with fail
        go_ret
        exact ⟨rfl, by rw [← HGH.out]; exact HB7.out⟩
    · go_wp2_with fail
      obtain ⟨D, hD⟩ : ∃ D, D = byv (digest T.data.toList) := ⟨_, rfl⟩
      have q1 : ∀ W, (Op.equalIn 10000 24 (.agg D) (.agg D)).run Tryd.prog W = .ok true W := fun W => by rw [hD, digest_eq _ _ (digest_length _) (digest_length _)]; simp
      have HD := Lib.hid hD
      clear hD
      refine (DigestL gh T.data.toList D wr HD.out HTT.out (by rw [len_data]; omega) HH.out).mono ?_
      rintro e W6 ⟨rfl, b6⟩
      have hlt6 : gh ≤ W6.heap.size := Nat.le_trans (Nat.le_of_lt HH.out.lt) b6.size
      have HB6 := Lib.hid (HB.out.trans (b6.mono (Nat.le_of_lt HH.out.lt)))
      clear b6 HTT HH HB
      go_wp2_with fail
      refine (Sum_refL T _ D rfl HD.out (by omega) W6).mono ?_
      rintro e W7 ⟨rfl, b7⟩
      have HB7 := Lib.hid (HB6.out.trans (b7.mono hlt6))
      clear b7 HB6
      go_wp2_with fail
      go_ret
      exact ⟨rfl, by rw [← HGH.out]; exact HB7.out⟩

set_option maxRecDepth 100000 in
theorem lifted (os : Os) (started : os.Started) (H : Type) (enc : TypeId × Value → H) :
    ReturnsInHanded {} Tryd.checked os 4 .any (fun w args => (Rows.hashWritesSpec.pre enc Tryd.prog Tryd.f4 [] false w args ∧ laidMetH Tryd.prog laid1 w) ∧ sizedMet enc Tryd.prog Tryd.f4 (OpenSpec.ofChange Rows.hashWritesSpec) false w args)
      (Rows.hashWritesSpec.post enc Tryd.prog Tryd.f4 false true false false) := by
  refine returnsInHanded_of_change_and (C := Tryd.checked) (X := fun w _ => laidMetH Tryd.prog laid1 w) (fun _ _ _ hh h => h.of_heap hh) own started (by kernel_rfl) Tryd.func4
    (ChangeSpec.witness_shaped (enc := enc) (C := Tryd.checked) (os := os) (X := fun w _ => laidMetH Tryd.prog laid1 w) false (World.doorLaid Tryd.prog 400 os) #[.slice none 0 0] 8 rfl (World.shaped_of_RefB (by kernel_rfl) (by kernel_rfl)) (by kernel_rfl) (by kernel_rfl) (by kernel_rfl) (door_met os _)) ?_
  intro W base args ds gs before hval0 hW hcnd hsz0 hL _
  have hsz : (DataW.weightsEach Tryd.prog (Tryd.f4.params.toList ++ Rows.hashWritesSpec.plain.varTypes Tryd.prog) (ds ++ gs)).all (· ≤ reachBytes) = true := hsz0
  have ht := table_of hL
  have hval : ∀ (j : Nat) t v, Tryd.f4.params[j]? = some t → args[j]? = some v → Value.okWide Tryd.prog W .any base t v := hval0
  have hW' := hW
  obtain ⟨p, q, hA0, hV, rfl, hfz, hnd⟩ := hW
  have hA : DataW.TrodAll enc Tryd.prog W 0 (fun _ => true) true Tryd.f4.params.toList args.toList ds p := hA0
  rw [Tryd.params4] at hA hval hsz
  obtain ⟨v0, vs0, d0, ds0, p0, q0, hargs, rfl, rfl, h0, r0⟩ := trodAll_cons hA
  obtain ⟨rfl, rfl, rfl⟩ := trodAll_nil r0
  obtain rfl : args = #[v0] := by cases args; simp_all
  obtain ⟨rfl, rfl⟩ := trodVars_none hV
  have k0 := h0
  have lt0 : ∀ x ∈ p0, x.block < W.heap.size := by obtain ⟨m, hm⟩ := k0; exact DataW.trod_lt m _ _ _ hm
  obtain ⟨A, len, cap, rfl, hl, hp⟩ := open_parts (hval 0 28 v0 rfl rfl) h0
  clear hA0 hval0
  simp only [List.append_nil] at hW'
  refine (walk A len cap hl W ht hp).mono fun e W' ⟨he, bel⟩ => ?_
  subst he
  exact ⟨_, rfl, _, _, _, [], _, [], hW', trodAll_mk1 (shut_bool Tryd.underlying4 _), (trodAll_cons_mk (Below.trod laidOut (by kernel_rfl) (of_decide_eq_true (by kernel_rfl)) k0 bel lt0) trodAll_mk0), rfl, bel.frame _, fun h => by cases h⟩

theorem over : Rows.HashWritesSaid :=
  OpenClaim.holds_of_wide 4 Tryd.f4 rfl rfl rfl rfl rfl rfl rfl ⟨rfl, rfl, rfl, rfl, rfl⟩ rfl rfl rfl rfl rfl (by kernel_rfl) Tryd.func4 (by kernel_rfl)
    (of_decide_eq_true (by kernel_rfl)) (by unfold Func.isWrapper; first | (rw [if_pos (by decide +kernel)]; kernel_rfl) | (rw [if_neg (by decide +kernel)]; exact ⟨rfl, rfl⟩))
    (fun os started H enc _ => lifted os started H enc)

theorem proved : Rows.HashWritesCardSaid :=
  Claim7.holds_tied_plain_at .later [] [.data, .data] true _ false
    over (fun _ h => by cases h) (by kernel_rfl) (fun _ h => by cases h) hashWrites_row_tie rfl ⟨rfl, rfl⟩ (by kernel_rfl) rfl
    (fun f fn hf hfn => by
      obtain rfl : f = 4 := Option.some.inj ((show Tryd.prog.funcNamed "plait/plaitlaw06.HashWrites" = some 4 by kernel_rfl).symm.trans hf) |>.symm
      obtain rfl : fn = Tryd.f4 := (Option.some.inj (Tryd.func4.symm.trans hfn)).symm
      exact ⟨by kernel_rfl, fun j t ht => by
        rw [Tryd.params4] at ht
        have hm : t ∈ ([28] : List TypeId) := by simpa using Array.mem_of_getElem? ht
        have hall : (([28] : List TypeId).all fun u => !Tryd.prog.wantsStandIn u) = true := by kernel_rfl
        exact (show Tryd.prog.wantsStandIn t = false by simpa using List.all_eq_true.1 hall t hm)⟩)
    (by kernel_rfl)
#print axioms proved
end Go.Proofs.YtblcadikfjdfoaaDoor.hashWrites
