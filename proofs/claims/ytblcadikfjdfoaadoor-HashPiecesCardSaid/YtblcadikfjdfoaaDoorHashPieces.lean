/-
  A text may be written in any pieces, with digests asked between: its digest is that of the text at once (statement HashPieces, promises P6.1 to P6.3), of all texts and lengths of pieces, without condition but the tables' own initial values, which the card ties to the program's text.
-/
import Derived.Test.YtblcadikfjdfoaaDoorShaOpen
import Derived.Test.YtblcadikfjdfoaaDoorShaEq
import Derived.Test.YtblcadikfjdfoaaDoorShaPieces
import Derived.Deep.Slices
import Derived.ChangeArms
import Derived.Deep.QuietTactic
import Derived.BigQuiet
namespace Go.Proofs.YtblcadikfjdfoaaDoor.hashPieces
open Go.ChangeShapes Go.WideShapes Go.ChangeAt Go.RowKit
set_option linter.unusedVariables false

/-- A front of a text, 400 bytes at most. -/
theorem front (s : ByteArray) : ∃ (m : Nat) (z : ByteArray), z = s.extract 0 m ∧ z.size = m ∧ (if (400 : Int) < (s.size : Int) then (400 : Int) else (s.size : Int)) = (m : Int) ∧ (m : Int) ≤ s.size ∧ m ≤ 400 := by
  refine ⟨min s.size 400, _, rfl, ?_, ?_, ?_, ?_⟩
  · rw [ByteArray.size_extract]; omega
  · split <;> omega
  · omega
  · omega

/-- Bytes, as an argument. -/
theorem open_u8s {H : Type} {enc : TypeId × Value → H} {w : World} {base : Nat} {spare : Nat → Bool} {held : Bool} {r : Reach} {b0 : Nat} {v : Value} {d : DataW H} {p : List MemPlace}
    (hv : Value.okWide Tryd.prog w r b0 22 v) (h : DataW.Trod enc Tryd.prog w base spare held 22 v d p) :
    ∃ (A : Option Addr) (len cap : Nat), v = .slice A len cap ∧ len ≤ 9223372036854775807 ∧ Lens w A len := by
  obtain ⟨A, len, cap, rfl⟩ := okWide_slice Tryd.underlying22 hv
  obtain ⟨fuel, hf⟩ := h
  rcases Go.Deep.open_slice1 Tryd.underlying22 (by kernel_rfl) hf with ⟨h0, _⟩ | ⟨ad, len', cap', m, n, V, D, Pl, hcs, _, hl, hm, hmm, _, hi⟩
  · simp [Value.cells] at h0
    obtain ⟨rfl, rfl, rfl⟩ := h0
    exact ⟨none, 0, 0, rfl, by omega, fun i hi => absurd hi (by omega)⟩
  · simp [Value.cells] at hcs
    obtain ⟨rfl, rfl, rfl⟩ := hcs
    refine ⟨some ad, len, cap, rfl, by unfold maxLen at hm; omega, fun i hlt => ?_⟩
    have him : i < m := by rw [hmm]; split <;> omega
    obtain ⟨hc, ht⟩ := hi i him
    obtain ⟨b, hb, _, wf⟩ := DataW.trod_int Tryd.underlying5 ht
    have e : V i = .int .u8 b := by simpa using hb
    have := bounds_u8 wf
    exact ⟨ad, b, rfl, by rw [hc, e], by omega, by omega⟩

theorem cats_pre (ss : List ByteArray) (k : Nat) : (cats ss).take (cats (ss.take k)).length = cats (ss.take k) := by
  have h : cats ss = cats (ss.take k) ++ cats (ss.drop k) := by
    unfold cats
    rw [← List.flatMap_append, List.take_append_drop]
  rw [h, List.take_left' rfl]

/-- So far: j pieces were written. -/
def PsAt (w W : World) (gh B : Nat) (v : Value) (ss : List ByteArray) (a i : Value) : Prop :=
  ∃ j : Nat, j ≤ ss.length ∧ i = .int .i64 (j : Int) ∧ a = .int .i64 ((cats (ss.take j)).length : Int) ∧ Hsh W gh (cats (ss.take j)) ∧ Tbl W ∧ Rw B W v ss ∧ Below gh w W

theorem PsAt.below {w W W' : World} {gh B : Nat} {v : Value} {ss : List ByteArray} {a i : Value} (h : PsAt w W gh B v ss a i) (b : Below W.heap.size W W') : PsAt w W' gh B v ss a i := by
  obtain ⟨j, h1, h2, h3, h4, h5, h6, h7⟩ := h
  exact ⟨j, h1, h2, h3, h4.below b h4.lt, h5.below b, h6.below b, h7.trans (b.mono (Nat.le_of_lt h4.lt))⟩

theorem PsAt.drew {w W : World} {gh B : Nat} {v : Value} {ss : List ByteArray} {a i : Value} (h : PsAt w W gh B v ss a i) : PsAt w W.drew gh B v ss a i := h.below ((Below.refl _ W).drew)

set_option maxHeartbeats 4000000 in
set_option maxRecDepth 100000 in
theorem walk (a0 : ByteArray) (z0 : a0.size ≤ 140737488351232) (A : Option Addr) (len cap : Nat) (hl : len ≤ 9223372036854775807) (w : World) (ht : Tbl w) (hp : Lens w A len) :
    Calls Tryd.prog 5 #[.string a0, .slice A len cap] w fun e w' => e = .returned (.bool true) ∧ Below w.heap.size w w' := by
  have h1 := ht.lt
  have HT := Lib.hid ht
  have HP := Lib.hid hp
  obtain ⟨m0, F, hF, nF, mF, lF, uF⟩ := front a0
  have EF := Lib.hid hF.symm
  have NF := Lib.hid nF
  have MF := Lib.hid mF
  clear hF nF mF ht hp
  go_enter Tryd.func5, Tryd.ntmps5
  go_wp2_with fail
  refine (New_any w HT.out).mono ?_
  rintro e W1 ⟨rfl, hh, b1⟩
  have HH1 := Lib.hid hh
  have HT1 := Lib.hid (HT.out.below b1)
  have HP1 := Lib.hid (HP.out.below b1)
  have HB1 := Lib.hid b1
  clear hh b1 HT HP
  go_wp2_with fail
  refine (works_t W1 HT1.out).mono ?_
  rintro e W2 ⟨rfl, b2⟩
  have HH2 := Lib.hid (HH1.out.below b2 HH1.out.lt)
  have HT2 := Lib.hid (HT1.out.below b2)
  have HP2 := Lib.hid (HP1.out.below b2)
  have HB2 := Lib.hid (HB1.out.trans (b2.mono HB1.out.size))
  clear b2 HH1 HT1 HP1 HB1
  have mF := MF.out
  have eF := EF.out
  go_wp2_with fail
  clear mF eF
  have sF : F.size ≤ 400 := by rw [NF.out]; exact uF
  refine (pieces_any F sF A len cap hl W2 HP2.out).mono ?_
  rintro e W3 ⟨v, ss, rfl, rw3, hcat, hlen, b3⟩
  have hlt2 := HH2.out.lt
  have hlt3 := HH2.out.below b3 hlt2
  obtain ⟨gh, hgh⟩ : ∃ gh, gh = w.heap.size := ⟨_, rfl⟩
  obtain ⟨B, hB⟩ : ∃ B, B = W2.heap.size := ⟨_, rfl⟩
  have HR3 := Lib.hid rw3
  have HH3 := Lib.hid hlt3
  have HT3 := Lib.hid (HT2.out.below b3)
  have HB3 := Lib.hid (HB2.out.trans (b3.mono HB2.out.size))
  have HC := Lib.hid hcat
  clear rw3 hlt3 b3 hcat HH2 HT2 HP2 HB2
  rw [← hgh] at HH3 HB3 hlt2 h1 ⊢
  rw [← hB] at HR3 hlt2
  have HGH := Lib.hid hgh
  clear hgh hB
  obtain ⟨p, capr, rfl, _⟩ := HR3.out
  go_wp2_with fail
  go_loopw [7, 8] (fun a i wr => PsAt w wr gh B (.slice p ss.length capr) ss a i) (fun _ i _ => ss.length - (intOf i).toNat)
  case atStart => exact ⟨0, Nat.zero_le _, rfl, rfl, HH3.out, HT3.out, HR3.out, HB3.out⟩
  case round =>
    obtain ⟨j, hj, rfl, rfl, hh, ht, hr, hb⟩ := hrel
    have HH := Lib.hid hh
    have HTT := Lib.hid ht
    have HR := Lib.hid hr
    have HB := Lib.hid hb
    clear hh ht hr hb HH3 HT3 HR3 HB3
    by_cases hlt : j < ss.length
    · obtain ⟨p', cp', hv, hcell⟩ := HR.out
      injection hv with hp1 _ hp3
      obtain ⟨g, hg, hBg, hgl, c⟩ := hcell j ss[j] (List.getElem?_eq_getElem hlt)
      rw [← hp1] at hg
      subst hg
      obtain ⟨s, hs⟩ : ∃ s, s = ss[j] := ⟨_, rfl⟩
      rw [← hs] at c
      have hcat1 := cats_take ss j s (by rw [hs]; exact List.getElem?_eq_getElem hlt)
      have hpre := cats_pre ss (j + 1)
      have hpre0 := cats_pre ss j
      have HC1 := Lib.hid hcat1
      have HC2 := Lib.hid hpre
      have hFl : (cats ss).length ≤ 400 := by rw [HC.out, len_data]; exact sF
      have hl1 : (cats (ss.take (j + 1))).length ≤ 400 := by rw [← hpre, List.length_take]; omega
      have hl0 : (cats (ss.take j)).length ≤ 400 := by rw [← hpre0, List.length_take]; omega
      have hsum : (cats (ss.take (j + 1))).length = (cats (ss.take j)).length + s.size := by rw [hcat1, List.length_append, len_data]
      obtain ⟨T0, hT0⟩ : ∃ T0, T0 = cats (ss.take j) := ⟨_, rfl⟩
      obtain ⟨T1, hT1⟩ : ∃ T1, T1 = cats (ss.take (j + 1)) := ⟨_, rfl⟩
      rw [← hT0] at hl0 hsum HH HC1 ⊢
      rw [← hT1] at hl1 hsum HC1 HC2
      have HT1 := Lib.hid hT1
      clear hs hcat1 hpre hpre0 hp1 hp3 hcell hT0 hT1
      go_wp2_with fail
      refine (Write_any gh T0 s wr h1 (by omega) HTT.out HH.out).mono ?_
      rintro e W4 ⟨rfl, h4, g4⟩
      rw [← HC1.out] at h4
      have HH4 := Lib.hid h4
      have HT4 := Lib.hid (HTT.out.grown g4 h1)
      have HR4 := Lib.hid (HR.out.grown g4 hlt2)
      have c4 : W4.cell? ⟨g, j, none⟩ = some (.string s) := (World.cell?_of_block (a := ⟨g, j, none⟩) (g4.block g hgl (by simp; omega))).trans c
      have hg4 : g < W4.heap.size := Nat.lt_of_lt_of_le hgl g4.size
      have HB4 := Lib.hid (HB.out.trans (below_of_only g4 (Nat.le_refl _) (by have := HB.out.size; have := HGH.out; omega)))
      clear h4 g4 c HH HTT HR HB
      go_wp2_with fail
      refine (Write_any gh T1 ⟨#[]⟩ W4 h1 (by show T1.length + 0 < _; omega) HT4.out HH4.out).mono ?_
      rintro e W5 ⟨rfl, h5, g5⟩
      rw [show T1 ++ (ByteArray.mk #[]).data.toList = T1 from List.append_nil _] at h5
      have c5 : W5.cell? ⟨g, j, none⟩ = some (.string s) := (World.cell?_of_block (a := ⟨g, j, none⟩) (g5.block g hg4 (by simp; omega))).trans c4
      have HH5 := Lib.hid h5
      have HT5 := Lib.hid (HT4.out.grown g5 h1)
      have HR5 := Lib.hid (HR4.out.grown g5 hlt2)
      have HB5 := Lib.hid (HB4.out.trans (below_of_only g5 (Nat.le_refl _) (by have := HB4.out.size; have := HGH.out; omega)))
      clear h5 g5 c4 HH4 HT4 HR4 HB4
      have hsl : s.size ≤ 400 := by omega
      go_wp2_with fail
      have hat : ((T0.length : Nat) : Int) + (s.size : Int) = (T1.length : Int) := by omega
      rw [hat]
      have HST := Lib.hid (show PsAt w W5 gh B (.slice (some ⟨g, 0, none⟩) ss.length capr) ss (.int .i64 (T1.length : Int)) (.int .i64 ((j : Int) + 1)) from
        ⟨j + 1, by omega, by rw [Int.natCast_add]; rfl, by rw [HT1.out], by rw [← HT1.out]; exact HH5.out, HT5.out, HR5.out, HB5.out⟩)
      clear c5 hat hsl hsum HR5 HB5 hl0
      by_cases h3 : j % 3 = 1
      · have d3 : ((j : Int).tmod 3 == 1) = true := by rw [Int.tmod_eq_emod_of_nonneg (by omega)]; simp; omega
        obtain ⟨D, hD⟩ : ∃ D, D = byv (digest T1) := ⟨_, rfl⟩
        have q1 : ∀ W, (Op.equalIn 10000 24 (.agg D) (.agg D)).run Tryd.prog W = .ok true W := fun W => by rw [hD, digest_eq _ _ (digest_length _) (digest_length _)]; simp
        have HD := Lib.hid hD
        obtain ⟨X, hX⟩ : ∃ X, X = F.extract 0 T1.length := ⟨_, rfl⟩
        have eX : F.extract 0 T1.length = X := hX.symm
        have HX := Lib.hid (show X.data.toList = T1 by rw [hX, ByteArray.data_extract, Array.toList_extract, List.extract, List.drop_zero, Nat.sub_zero, ← HC.out]; exact HC2.out)
        have hTF : T1.length ≤ F.size := by rw [← len_data, ← HC.out, ← HC2.out, List.length_take]; omega
        clear hD hX
        have K0 := Lib.hid trivial
        go_region_held3 (fun w' => True)
          (first | exact trivial)
          (first
            | (clear K0; go_at_call 14; refine (DigestL gh T1 D _ HD.out (HT5.out.drewN 1) (by omega) (HH5.out.same rfl)).mono ?_; rintro e W6 ⟨rfl, b6⟩; have HT6 := Lib.hid ((HT5.out.drewN 1).below b6); have HST6 := Lib.hid (HST.out.drew.below b6); clear b6)
            | (go_at_call 9; refine (SumL X T1 D _ HX.out HD.out HT6.out (by omega)).mono ?_; rintro e W7 ⟨rfl, b7⟩; have HST7 := Lib.hid (HST6.out.below b7); clear b7))
        clear HST HST6 HT6 HH5 HT5 HX eX
        go_wp2_with fail
        go_roundw
        case rel => exact HST7.out
        case measure => simp [intOf]; omega
      · have d3 : ((j : Int).tmod 3 == 1) = false := by rw [Int.tmod_eq_emod_of_nonneg (by omega)]; simp; omega
        go_quiet (fail)
        obtain ⟨W, hW⟩ : ∃ W, W = W5.drewN nq := ⟨_, rfl⟩
        rw [← hW]
        have HST6 := Lib.hid (show PsAt w W gh B (.slice (some ⟨g, 0, none⟩) ss.length capr) ss (.int .i64 (T1.length : Int)) (.int .i64 ((j : Int) + 1)) by rw [hW]; exact HST.out.below (below_drewN (Below.refl _ _) _))
        clear hW HST
        go_wp2_with fail
        go_roundw
        case rel => exact HST6.out
        case measure => simp [intOf]; omega
    · obtain rfl : j = ss.length := by omega
      have hfs : ((cats (ss.take ss.length)).length : Int) = (F.size : Int) := by rw [List.take_length, HC.out, len_data]
      rw [hfs]
      rw [List.take_length] at HH
      clear hlt hfs
      go_wp2_with fail
      have hFl : (cats ss).length ≤ 400 := by rw [HC.out, len_data]; exact sF
      obtain ⟨D, hD⟩ : ∃ D, D = byv (digest (cats ss)) := ⟨_, rfl⟩
      have q1 : ∀ W, (Op.equalIn 10000 24 (.agg D) (.agg D)).run Tryd.prog W = .ok true W := fun W => by rw [hD, digest_eq _ _ (digest_length _) (digest_length _)]; simp
      have HD := Lib.hid hD
      clear hD
      refine (DigestL gh (cats ss) D wr HD.out HTT.out (by omega) HH.out).mono ?_
      rintro e W6 ⟨rfl, b6⟩
      have HT6 := Lib.hid (HTT.out.below b6)
      have HH6 := Lib.hid (HH.out.below b6 HH.out.lt)
      have HB6 := Lib.hid (HB.out.trans (b6.mono (Nat.le_of_lt HH.out.lt)))
      clear b6 HTT HH HB HR
      go_wp2_with fail
      refine (SumL F (cats ss) D W6 HC.out.symm HD.out HT6.out (by omega)).mono ?_
      rintro e W7 ⟨rfl, b7⟩
      have HH7 := Lib.hid (HH6.out.below b7 HH6.out.lt)
      have HB7 := Lib.hid (HB6.out.trans (b7.mono (Nat.le_of_lt HH6.out.lt)))
      clear b7 HT6 HH6 HB6
      go_wp2_with fail
      refine (Len_any gh (cats ss) W7 HH7.out).mono ?_
      rintro e W' ⟨rfl, rfl⟩
      have eF : ((cats ss).length : Int) = (F.size : Int) := by rw [HC.out, len_data]
      rw [eF]
      go_wp2_with fail
      go_ret
      exact ⟨rfl, by rw [← HGH.out]; exact HB7.out⟩

set_option maxRecDepth 100000 in
theorem lifted (os : Os) (started : os.Started) (H : Type) (enc : TypeId × Value → H) :
    ReturnsInHanded {} Tryd.checked os 5 .any (fun w args => (Rows.hashPiecesSpec.pre enc Tryd.prog Tryd.f5 [] false w args ∧ laidMetH Tryd.prog laid1 w) ∧ sizedMet enc Tryd.prog Tryd.f5 (OpenSpec.ofChange Rows.hashPiecesSpec) false w args)
      (Rows.hashPiecesSpec.post enc Tryd.prog Tryd.f5 false true false false) := by
  refine returnsInHanded_of_change_and (C := Tryd.checked) (X := fun w _ => laidMetH Tryd.prog laid1 w) (fun _ _ _ hh h => h.of_heap hh) own started (by kernel_rfl) Tryd.func5
    (ChangeSpec.witness_shaped (enc := enc) (C := Tryd.checked) (os := os) (X := fun w _ => laidMetH Tryd.prog laid1 w) false (World.doorLaid Tryd.prog 400 os) #[.string ByteArray.empty, .slice none 0 0] 8 rfl (World.shaped_of_RefB (by kernel_rfl) (by kernel_rfl)) (by kernel_rfl) (by kernel_rfl) (by kernel_rfl) (door_met os _)) ?_
  intro W base args ds gs before hval0 hW hcnd hsz0 hL _
  have hsz : (DataW.weightsEach Tryd.prog (Tryd.f5.params.toList ++ Rows.hashPiecesSpec.plain.varTypes Tryd.prog) (ds ++ gs)).all (· ≤ reachBytes) = true := hsz0
  have ht := table_of hL
  have hval : ∀ (j : Nat) t v, Tryd.f5.params[j]? = some t → args[j]? = some v → Value.okWide Tryd.prog W .any base t v := hval0
  have hW' := hW
  obtain ⟨p, q, hA0, hV, rfl, hfz, hnd⟩ := hW
  have hA : DataW.TrodAll enc Tryd.prog W 0 (fun _ => true) true Tryd.f5.params.toList args.toList ds p := hA0
  rw [Tryd.params5] at hA hval hsz
  obtain ⟨v0, vs0, d0, ds0, p0, q0, hargs, rfl, rfl, h0, r0⟩ := trodAll_cons hA
  obtain ⟨v1, vs1, d1, ds1, p1, q1, rfl, rfl, rfl, h1, r1⟩ := trodAll_cons r0
  obtain ⟨rfl, rfl, rfl⟩ := trodAll_nil r1
  obtain rfl : args = #[v0, v1] := by cases args; simp_all
  obtain ⟨rfl, rfl⟩ := trodVars_none hV
  obtain ⟨a0, rfl, rfl, rfl, w0⟩ := Go.ChangeMaps.open_string Tryd.underlying9 (hval 0 9 v0 rfl rfl) h0
  have k1 := h1
  have lt1 : ∀ x ∈ p1, x.block < W.heap.size := by obtain ⟨m, hm⟩ := k1; exact DataW.trod_lt m _ _ _ hm
  obtain ⟨a1, l1, c1, rfl, hl1, hp1⟩ := open_u8s (hval 1 22 v1 rfl rfl) h1
  have z0 : a0.size ≤ 140737488351232 := by have := sized_string hsz (j := 0) (t := 9) rfl rfl; simpa [reachBytes] using this
  clear hA0 hval0
  simp only [List.append_nil] at hW'
  refine (walk a0 z0 a1 l1 c1 hl1 W ht hp1).mono fun e W' ⟨he, bel⟩ => ?_
  subst he
  exact ⟨_, rfl, _, _, _, [], _, [], hW', trodAll_mk1 (shut_bool Tryd.underlying4 _), (trodAll_cons_mk (Go.ChangeMaps.shut_string Tryd.underlying9 w0) (trodAll_cons_mk (Below.trod laidOut (by kernel_rfl) (of_decide_eq_true (by kernel_rfl)) k1 bel lt1) trodAll_mk0)), rfl, bel.frame _, fun h => by cases h⟩

theorem over : Rows.HashPiecesSaid :=
  OpenClaim.holds_of_wide 5 Tryd.f5 rfl rfl rfl rfl rfl rfl rfl ⟨rfl, rfl, rfl, rfl, rfl⟩ rfl rfl rfl rfl rfl (by kernel_rfl) Tryd.func5 (by kernel_rfl)
    (of_decide_eq_true (by kernel_rfl)) (by unfold Func.isWrapper; first | (rw [if_pos (by decide +kernel)]; kernel_rfl) | (rw [if_neg (by decide +kernel)]; exact ⟨rfl, rfl⟩))
    (fun os started H enc _ => lifted os started H enc)

theorem proved : Rows.HashPiecesCardSaid :=
  Claim7.holds_tied_plain_at .later [] [.data, .data] true _ false
    over (fun _ h => by cases h) (by kernel_rfl) (fun _ h => by cases h) hashPieces_row_tie rfl ⟨rfl, rfl⟩ (by kernel_rfl) rfl
    (fun f fn hf hfn => by
      obtain rfl : f = 5 := Option.some.inj ((show Tryd.prog.funcNamed "plait/plaitlaw06.HashPieces" = some 5 by kernel_rfl).symm.trans hf) |>.symm
      obtain rfl : fn = Tryd.f5 := (Option.some.inj (Tryd.func5.symm.trans hfn)).symm
      exact ⟨by kernel_rfl, fun j t ht => by
        rw [Tryd.params5] at ht
        have hm : t ∈ ([9, 22] : List TypeId) := by simpa using Array.mem_of_getElem? ht
        have hall : (([9, 22] : List TypeId).all fun u => !Tryd.prog.wantsStandIn u) = true := by kernel_rfl
        exact (show Tryd.prog.wantsStandIn t = false by simpa using List.all_eq_true.1 hall t hm)⟩)
    (by kernel_rfl)
#print axioms proved
end Go.Proofs.YtblcadikfjdfoaaDoor.hashPieces
