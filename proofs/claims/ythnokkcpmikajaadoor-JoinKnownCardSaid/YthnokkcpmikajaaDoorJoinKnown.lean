/-
  JoinKnown returns true: a closed statement (promises P10.1, P10.2). No conditions but the table's own initial values, which the card ties to the program's text.
-/
import Derived.Test.YthnokkcpmikajaaDoorJoinMore
import Derived.Deep.MidRow
namespace Go.Proofs.YthnokkcpmikajaaDoor.joinKnown
open Go.ChangeShapes Go.WideShapes Go.ChangeAt Go.RowKit
set_option linter.unusedVariables false

/-- The options that may not be. -/
def bad (j : Nat) : Jn := ([⟨(-1), false, 0, 0, 0, ⟨#[]⟩⟩, ⟨3, false, 0, 0, 0, ⟨#[]⟩⟩, ⟨0, false, 256, 0, 0, ⟨#[]⟩⟩, ⟨0, false, (-1), 0, 0, ⟨#[]⟩⟩, ⟨0, false, 0, 0, 0, ⟨#[97]⟩⟩, ⟨1, false, 0, 0, 0, ⟨#[]⟩⟩, ⟨1, false, 0, 0, 0, ⟨#[49, 50, 51, 52, 53, 54, 55, 56, 57]⟩⟩, ⟨1, false, 0, 1, 0, ⟨#[49, 50, 51, 52, 53, 54, 55, 56]⟩⟩, ⟨2, false, 0, 0, 0, ⟨#[49, 50, 51, 52, 53, 54, 55, 56]⟩⟩, ⟨2, false, 1, 0, 0, ⟨#[49, 50, 51, 52, 53, 54, 55, 56, 57, 48, 49, 50, 51, 52, 53, 54, 55, 56, 57, 48]⟩⟩, ⟨2, true, 0, 0, 0, ⟨#[49, 50, 51, 52, 53, 54, 55, 56, 57, 48, 49, 50, 51, 52, 53, 54, 55, 56, 57, 48]⟩⟩, ⟨2, false, 0, 0, 1, ⟨#[49, 50, 51, 52, 53, 54, 55, 56, 57, 48, 49, 50, 51, 52, 53, 54, 55, 56, 57, 48]⟩⟩, ⟨2, false, 0, 1, 0, ⟨#[49, 50, 51, 52, 53, 54, 55, 56, 57, 48, 49, 50, 51, 52, 53, 54, 55, 56, 57, 48]⟩⟩] : List Jn).getD j Jn.zero
theorem bad_ok (j : Nat) (hj : j < 13) : (bad j).Ok := by
  have : j = 0 ∨ j = 1 ∨ j = 2 ∨ j = 3 ∨ j = 4 ∨ j = 5 ∨ j = 6 ∨ j = 7 ∨ j = 8 ∨ j = 9 ∨ j = 10 ∨ j = 11 ∨ j = 12 := by omega
  rcases this with rfl | rfl | rfl | rfl | rfl | rfl | rfl | rfl | rfl | rfl | rfl | rfl | rfl <;> exact ⟨by decide, by decide, by decide, by decide, by decide⟩
theorem bad_not (j : Nat) (hj : j < 13) : ¬ (bad j).May := by
  have : j = 0 ∨ j = 1 ∨ j = 2 ∨ j = 3 ∨ j = 4 ∨ j = 5 ∨ j = 6 ∨ j = 7 ∨ j = 8 ∨ j = 9 ∨ j = 10 ∨ j = 11 ∨ j = 12 := by omega
  rcases this with rfl | rfl | rfl | rfl | rfl | rfl | rfl | rfl | rfl | rfl | rfl | rfl | rfl <;> decide
def badCells : Array Value := #[.int .i64 (-1), .bool false, .int .i64 0, .int .u32 0, .int .u32 0, .string ⟨#[]⟩, .int .i64 3, .bool false, .int .i64 0, .int .u32 0, .int .u32 0, .string ⟨#[]⟩, .int .i64 0, .bool false, .int .i64 256, .int .u32 0, .int .u32 0, .string ⟨#[]⟩, .int .i64 0, .bool false, .int .i64 (-1), .int .u32 0, .int .u32 0, .string ⟨#[]⟩, .int .i64 0, .bool false, .int .i64 0, .int .u32 0, .int .u32 0, .string ⟨#[97]⟩, .int .i64 1, .bool false, .int .i64 0, .int .u32 0, .int .u32 0, .string ⟨#[]⟩, .int .i64 1, .bool false, .int .i64 0, .int .u32 0, .int .u32 0, .string ⟨#[49, 50, 51, 52, 53, 54, 55, 56, 57]⟩, .int .i64 1, .bool false, .int .i64 0, .int .u32 1, .int .u32 0, .string ⟨#[49, 50, 51, 52, 53, 54, 55, 56]⟩, .int .i64 2, .bool false, .int .i64 0, .int .u32 0, .int .u32 0, .string ⟨#[49, 50, 51, 52, 53, 54, 55, 56]⟩, .int .i64 2, .bool false, .int .i64 1, .int .u32 0, .int .u32 0, .string ⟨#[49, 50, 51, 52, 53, 54, 55, 56, 57, 48, 49, 50, 51, 52, 53, 54, 55, 56, 57, 48]⟩, .int .i64 2, .bool true, .int .i64 0, .int .u32 0, .int .u32 0, .string ⟨#[49, 50, 51, 52, 53, 54, 55, 56, 57, 48, 49, 50, 51, 52, 53, 54, 55, 56, 57, 48]⟩, .int .i64 2, .bool false, .int .i64 0, .int .u32 0, .int .u32 1, .string ⟨#[49, 50, 51, 52, 53, 54, 55, 56, 57, 48, 49, 50, 51, 52, 53, 54, 55, 56, 57, 48]⟩, .int .i64 2, .bool false, .int .i64 0, .int .u32 1, .int .u32 0, .string ⟨#[49, 50, 51, 52, 53, 54, 55, 56, 57, 48, 49, 50, 51, 52, 53, 54, 55, 56, 57, 48]⟩]
theorem bad_part (j : Nat) (hj : j < 13) : (badCells.toList.drop (j * 6)).take 6 = (jnv (bad j)).toList := by
  have : j = 0 ∨ j = 1 ∨ j = 2 ∨ j = 3 ∨ j = 4 ∨ j = 5 ∨ j = 6 ∨ j = 7 ∨ j = 8 ∨ j = 9 ∨ j = 10 ∨ j = 11 ∨ j = 12 := by omega
  rcases this with rfl | rfl | rfl | rfl | rfl | rfl | rfl | rfl | rfl | rfl | rfl | rfl | rfl <;> rfl
theorem bad_cells (j : Nat) (hj : j < 13) (k : Nat) (v : Value) (h : (jnv (bad j)).toList[k]? = some v) : badCells[j * 6 + k]? = some v := by
  have hk : k < 6 := by
    have := (List.getElem?_eq_some_iff.1 h).1
    simpa using this
  rw [← bad_part j hj, List.getElem?_take_of_lt hk, List.getElem?_drop] at h
  rw [← Array.getElem?_toList]
  exact h
/-- The greatest one, and that of all zeros. -/
def jnM : Jn := ⟨0, false, 255, 4294967295, 4294967295, ⟨#[]⟩⟩
theorem jnM_ok : jnM.Ok := ⟨by decide, by decide, by decide, by decide, by decide⟩
theorem jnM_may : jnM.May := by decide
theorem jnZ_may : Jn.zero.May := by decide
theorem laidZ_t (w : World) (ht : Tbl w) : Calls Tryd.prog 16 #[.agg #[.int .i64 0, .bool false, .int .i64 0, .int .u32 0, .int .u32 0, .string ⟨#[]⟩], .string ⟨#[16, 0, 0, 0, 0, 0, 0, 0, 0, 0]⟩] w fun e w' => e = .returned (.bool true) ∧ Below w.heap.size w w' := laid_t Jn.zero Jn.zero_ok jnZ_may _ (by decide) w ht
theorem refA (w : World) (ht : Tbl w) : Calls Tryd.prog 17 #[.string ⟨#[16]⟩, .int .i64 5] w fun e w' => e = .returned (.bool true) ∧ Below w.heap.size w w' := refused_t _ (by decide) 5 (by kernel_rfl) w ht
theorem refB (w : World) (ht : Tbl w) : Calls Tryd.prog 17 #[.string ⟨#[0, 49, 50, 51, 52, 53, 54, 55, 56, 57]⟩, .int .i64 7] w fun e w' => e = .returned (.bool true) ∧ Below w.heap.size w w' := refused_t _ (by decide) 7 (by kernel_rfl) w ht
theorem refC (w : World) (ht : Tbl w) : Calls Tryd.prog 17 #[.string ⟨#[16, 49, 50, 51, 52, 53, 54, 55, 56, 57, 48, 49, 50, 51, 52, 53, 54, 55, 56, 57, 48, 49, 50, 51]⟩, .int .i64 5] w fun e w' => e = .returned (.bool true) ∧ Below w.heap.size w w' := refused_t _ (by decide) 5 (by kernel_rfl) w ht

set_option maxHeartbeats 4000000 in
set_option maxRecDepth 100000 in
theorem walk (w : World) (ht : Tbl w) :
    Calls Tryd.prog 8 #[] w fun e w' => e = .returned (.bool true) ∧ Below w.heap.size w w' := by
  have HT0 := Lib.hid ht
  clear ht
  go_enter Tryd.func8, Tryd.ntmps8
  go_upto_region 2 with fail
  obtain ⟨g, hg⟩ : ∃ g, g = w.heap.size := ⟨_, rfl⟩
  obtain ⟨W1, hW1⟩ : ∃ W1, W1 = w.alloc (.cells (jnv jnM) 24) := ⟨_, rfl⟩
  have HG1 := Lib.hid (show Blk W1 g 24 (jnv jnM) by rw [hW1, hg]; exact Blk.new _ _ _)
  have HB1 := Lib.hid (show Below w.heap.size w W1 by rw [hW1]; exact (Below.refl _ w).alloc (Nat.le_refl _) _)
  have HT1 := Lib.hid (show Tbl W1 by rw [hW1]; exact HT0.out.alloc _)
  change Code.wp _ _ _ _ (w.alloc (.cells (jnv jnM) 24))
  rw [← hW1, ← hg]
  have HGE := Lib.hid hg
  clear hW1 hg HT0
  go_upto_region 3 with fail
  obtain ⟨gb, hgb⟩ : ∃ gb, gb = W1.heap.size := ⟨_, rfl⟩
  obtain ⟨W5, hW5⟩ : ∃ W5, W5 = W1.alloc (.cells badCells 24) := ⟨_, rfl⟩
  have HK5 := Lib.hid (show Blk W5 gb 24 badCells by rw [hW5, hgb]; exact Blk.new _ _ _)
  have HG5 := Lib.hid (show Blk W5 g 24 (jnv jnM) by rw [hW5]; exact HG1.out.alloc _)
  have HB5 := Lib.hid (show Below w.heap.size w W5 by rw [hW5]; exact HB1.out.alloc HB1.out.size _)
  have HT5 := Lib.hid (show Tbl W5 by rw [hW5]; exact HT1.out.alloc _)
  change Code.wp _ _ _ _ (W1.alloc (.cells badCells 24))
  rw [← hW5, ← hgb]
  clear hW5 hgb HB1 HG1 HT1
  go_wp2_with fail
  go_loopw [3] (fun i wr => ∃ j : Nat, j ≤ 13 ∧ i = .int .i64 (j : Int) ∧ Blk wr gb 24 badCells ∧ Blk wr g 24 (jnv jnM) ∧ Tbl wr ∧ Below w.heap.size w wr) (fun i _ => (13 - intOf i).toNat)
  case atStart => exact ⟨0, by omega, rfl, HK5.out, HG5.out, HT5.out, HB5.out⟩
  case round =>
    obtain ⟨j, hj, rfl, hK, hG, hT, hB⟩ := hrel
    have HK6 := Lib.hid hK
    have HG6 := Lib.hid hG
    have HT6 := Lib.hid hT
    have HB6 := Lib.hid hB
    clear hK hG hT hB HK5 HG5 HT5 HB5
    by_cases hlt : j < 13
    · have HRG := Lib.hid (show wr.rangeAt gb (j * 6) (jnv (bad j)).toList from fun k v h => by rw [HK6.out.cell]; exact bad_cells j hlt k v h)
      obtain ⟨q, hq⟩ : ∃ q, q = bad j := ⟨_, rfl⟩
      have HQO := Lib.hid (show q.Ok by rw [hq]; exact bad_ok j hlt)
      have HQN := Lib.hid (show ¬ q.May by rw [hq]; exact bad_not j hlt)
      rw [← hq] at HRG
      have i13 : (j : Int) < 13 := by omega
      have HLT := Lib.hid hlt
      clear hq hlt hj
      go_wp2_with (refine wpList_load_mid rfl 24 _ rfl gb (j * 6) ?_ (jnv q).toList _ HRG.out Tryd.underlying24 rfl jn_size ?_; rfl)
      refine (Encode_any q HQO.out wr HT6.out).mono ?_
      rintro e W7 ⟨rfl, b⟩
      rw [encV_f q HQN.out]
      have HK7 := Lib.hid (HK6.out.below b HK6.out.lt)
      have HG7 := Lib.hid (HG6.out.below b HG6.out.lt)
      have HT7 := Lib.hid (HT6.out.below b)
      have HB7 := Lib.hid (HB6.out.trans (b.mono HB6.out.size))
      clear b HK6 HB6 HRG HG6 HT6
      go_wp2_with fail
      go_roundw
      case rel => exact ⟨j + 1, by have := HLT.out; omega, by go_num, HK7.out, HG7.out, HT7.out, HB7.out⟩
      case measure => simp [intOf]; omega
    · obtain rfl : j = 13 := by omega
      clear hlt hj HK6
      have HG0 := HG6
      have HT0 := HT6
      have HU0 := HB6
      clear HG6 HT6 HB6
      go_wp2_with fail
      refine (works_t wr HT0.out).mono ?_
      rintro e U1 ⟨rfl, b⟩
      have HG1 := Lib.hid (HG0.out.below b HG0.out.lt)
      have HT1 := Lib.hid (HT0.out.below b)
      have HU1 := Lib.hid (HU0.out.trans (b.mono HU0.out.size))
      clear b HG0 HT0 HU0
      go_wp2_with (refine wpList_load_row_w (by rfl) 24 _ rfl g rfl 24 (jnv jnM) (0, 0) _ ?_ Tryd.underlying24 rfl jn_size ?_; exact HG1.out)
      refine (laid_t jnM jnM_ok jnM_may _ (by decide) U1 HT1.out).mono ?_
      rintro e U2 ⟨rfl, b⟩
      have HG2 := Lib.hid (HG1.out.below b HG1.out.lt)
      have HT2 := Lib.hid (HT1.out.below b)
      have HU2 := Lib.hid (HU1.out.trans (b.mono HU1.out.size))
      clear b HG1 HT1 HU1
      go_wp2_with fail
      refine (laidZ_t U2 HT2.out).mono ?_
      rintro e U3 ⟨rfl, b⟩
      have HG3 := Lib.hid (HG2.out.below b HG2.out.lt)
      have HT3 := Lib.hid (HT2.out.below b)
      have HU3 := Lib.hid (HU2.out.trans (b.mono HU2.out.size))
      clear b HG2 HT2 HU2
      go_wp2_with fail
      refine (refA U3 HT3.out).mono ?_
      rintro e U4 ⟨rfl, b⟩
      have HG4 := Lib.hid (HG3.out.below b HG3.out.lt)
      have HT4 := Lib.hid (HT3.out.below b)
      have HU4 := Lib.hid (HU3.out.trans (b.mono HU3.out.size))
      clear b HG3 HT3 HU3
      go_wp2_with fail
      refine (refB U4 HT4.out).mono ?_
      rintro e U5 ⟨rfl, b⟩
      have HG5 := Lib.hid (HG4.out.below b HG4.out.lt)
      have HT5 := Lib.hid (HT4.out.below b)
      have HU5 := Lib.hid (HU4.out.trans (b.mono HU4.out.size))
      clear b HG4 HT4 HU4
      go_wp2_with fail
      refine (refC U5 HT5.out).mono ?_
      rintro e U6 ⟨rfl, b⟩
      have HG6 := Lib.hid (HG5.out.below b HG5.out.lt)
      have HT6 := Lib.hid (HT5.out.below b)
      have HU6 := Lib.hid (HU5.out.trans (b.mono HU5.out.size))
      clear b HG5 HT5 HU5
      go_wp2_with fail
      refine (answer (Bytes_any (-1) U6 HT6.out) (show Value.int .i64 (Jn.bodySize (-1) : Int) = .int .i64 0 from rfl)).mono ?_
      rintro e U7 ⟨rfl, b⟩
      have HG7 := Lib.hid (HG6.out.below b HG6.out.lt)
      have HT7 := Lib.hid (HT6.out.below b)
      have HU7 := Lib.hid (HU6.out.trans (b.mono HU6.out.size))
      clear b HG6 HT6 HU6
      go_wp2_with fail
      refine (answer (Bytes_any 3 U7 HT7.out) (show Value.int .i64 (Jn.bodySize 3 : Int) = .int .i64 0 from rfl)).mono ?_
      rintro e U8 ⟨rfl, b⟩
      have HG8 := Lib.hid (HG7.out.below b HG7.out.lt)
      have HT8 := Lib.hid (HT7.out.below b)
      have HU8 := Lib.hid (HU7.out.trans (b.mono HU7.out.size))
      clear b HG7 HT7 HU7
      go_wp2_with fail
      refine (answer (Bytes_any 2 U8 HT8.out) (show Value.int .i64 (Jn.bodySize 2 : Int) = .int .i64 22 from rfl)).mono ?_
      rintro e U9 ⟨rfl, b⟩
      have HG9 := Lib.hid (HG8.out.below b HG8.out.lt)
      have HT9 := Lib.hid (HT8.out.below b)
      have HU9 := Lib.hid (HU8.out.trans (b.mono HU8.out.size))
      clear b HG8 HT8 HU8
      go_wp2_with fail
      go_ret
      exact ⟨rfl, HU9.out⟩

set_option maxRecDepth 100000 in
theorem lifted (os : Os) (started : os.Started) (H : Type) (enc : TypeId × Value → H) :
    ReturnsInHanded {} Tryd.checked os 8 .any (fun w args => (Rows.joinKnownSpec.pre enc Tryd.prog Tryd.f8 [] false w args ∧ laidMetH Tryd.prog laid1 w) ∧ sizedMet enc Tryd.prog Tryd.f8 (OpenSpec.ofChange Rows.joinKnownSpec) false w args)
      (Rows.joinKnownSpec.post enc Tryd.prog Tryd.f8 false true false false) := by
  refine returnsInHanded_of_change_and (C := Tryd.checked) (X := fun w _ => laidMetH Tryd.prog laid1 w) (fun _ _ _ hh h => h.of_heap hh) own started (by kernel_rfl) Tryd.func8
    (ChangeSpec.witness_shaped (enc := enc) (C := Tryd.checked) (os := os) (X := fun w _ => laidMetH Tryd.prog laid1 w) false (World.doorLaid Tryd.prog 400 os) #[] 8 rfl (World.shaped_of_RefB (by kernel_rfl) (by kernel_rfl)) (by kernel_rfl) (by kernel_rfl) (by kernel_rfl) (door_met os _)) ?_
  intro W base args ds gs before hval0 hW hcnd hsz0 hL _
  have hsz : (DataW.weightsEach Tryd.prog (Tryd.f8.params.toList ++ Rows.joinKnownSpec.plain.varTypes Tryd.prog) (ds ++ gs)).all (· ≤ reachBytes) = true := hsz0
  have ht := table_of hL
  have hval : ∀ (j : Nat) t v, Tryd.f8.params[j]? = some t → args[j]? = some v → Value.okWide Tryd.prog W .any base t v := hval0
  have hW' := hW
  obtain ⟨p, q, hA0, hV, rfl, hfz, hnd⟩ := hW
  have hA : DataW.TrodAll enc Tryd.prog W 0 (fun _ => true) true Tryd.f8.params.toList args.toList ds p := hA0
  rw [Tryd.params8] at hA hval hsz
  obtain ⟨rfl, rfl, rfl⟩ := trodAll_none hA
  obtain ⟨rfl, rfl⟩ := trodVars_none hV
  clear hA0 hval0
  simp only [List.append_nil] at hW'
  refine (walk  W ht).mono fun e W' ⟨he, bel⟩ => ?_
  subst he
  exact ⟨_, rfl, _, _, _, [], _, [], hW', trodAll_mk1 (shut_bool Tryd.underlying4 _), rfl, rfl, bel.frame _, fun h => by cases h⟩

theorem over : Rows.JoinKnownSaid :=
  OpenClaim.holds_of_wide 8 Tryd.f8 rfl rfl rfl rfl rfl rfl rfl ⟨rfl, rfl, rfl, rfl, rfl⟩ rfl rfl rfl rfl rfl (by kernel_rfl) Tryd.func8 (by kernel_rfl)
    (of_decide_eq_true (by kernel_rfl)) (by unfold Func.isWrapper; first | (rw [if_pos (by decide +kernel)]; kernel_rfl) | (rw [if_neg (by decide +kernel)]; exact ⟨rfl, rfl⟩))
    (fun os started H enc _ => lifted os started H enc)

theorem proved : Rows.JoinKnownCardSaid :=
  Claim7.holds_tied_plain_at .later [] [.data] true _ false
    over (fun _ h => by cases h) (by kernel_rfl) (fun _ h => by cases h) joinKnown_row_tie rfl ⟨rfl, rfl⟩ (by kernel_rfl) rfl
    (fun f fn hf hfn => by
      obtain rfl : f = 8 := Option.some.inj ((show Tryd.prog.funcNamed "plait/plaitlaw10.JoinKnown" = some 8 by kernel_rfl).symm.trans hf) |>.symm
      obtain rfl : fn = Tryd.f8 := (Option.some.inj (Tryd.func8.symm.trans hfn)).symm
      exact ⟨by kernel_rfl, fun j t ht => by
        rw [Tryd.params8] at ht
        simp at ht⟩)
    (by kernel_rfl)
#print axioms proved
end Go.Proofs.YthnokkcpmikajaaDoor.joinKnown
