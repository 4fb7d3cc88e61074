/-
  DssKnown returns true: a closed statement. No conditions.
-/
import Derived.Test.YtdhkjhkgjfcolaaDssWorks
import Derived.Deep.MidRow
import Derived.WalkKit
import Derived.ProofKit
import Derived.OpenShut
import Derived.ShutString
import Derived.ChangeOld
import Derived.Below
import Derived.SizedLaws
namespace Go.Proofs.Ytdhkjhkgjfcolaa.dssKnown
open Go.ChangeShapes Go.WideShapes Go.ChangeAt Go.RowKit
open Go.ChangeMaps (open_string shut_string)
set_option linter.unusedVariables false

/-- The signals that may not be. -/
def bad (j : Nat) : Ds := ([⟨false, false, false, 0, false, false, 0, 0, 0, false, 0⟩, ⟨false, true, false, 4294967296, false, false, 0, 0, 0, false, 0⟩, ⟨false, false, false, 0, true, false, 4294967296, 0, 0, false, 0⟩, ⟨false, false, false, 0, true, false, 0, 0, 65536, false, 0⟩, ⟨false, false, false, 0, true, false, 0, 0, (-1), false, 0⟩, ⟨false, false, false, 1, true, false, 0, 0, 0, false, 0⟩, ⟨false, false, true, 0, true, false, 0, 0, 0, false, 0⟩, ⟨true, true, false, 0, false, false, 0, 0, 0, false, 0⟩, ⟨false, true, false, 0, false, true, 0, 0, 0, false, 0⟩, ⟨false, true, false, 0, false, false, 1, 0, 0, false, 0⟩, ⟨false, true, false, 0, false, false, 0, 1, 0, false, 0⟩, ⟨false, true, false, 0, false, false, 0, 0, 1, false, 0⟩, ⟨false, true, false, 0, false, false, 0, 0, 0, true, 0⟩, ⟨false, false, false, 0, true, false, 0, 0, 0, false, 1⟩] : List Ds).getD j Ds.zero
theorem bad_ok (j : Nat) (hj : j < 14) : (bad j).Ok := by
  have : j = 0 ∨ j = 1 ∨ j = 2 ∨ j = 3 ∨ j = 4 ∨ j = 5 ∨ j = 6 ∨ j = 7 ∨ j = 8 ∨ j = 9 ∨ j = 10 ∨ j = 11 ∨ j = 12 ∨ j = 13 := by omega
  rcases this with rfl | rfl | rfl | rfl | rfl | rfl | rfl | rfl | rfl | rfl | rfl | rfl | rfl | rfl <;> exact ⟨by decide, by decide, by decide, by decide, by decide⟩
theorem bad_not (j : Nat) (hj : j < 14) : ¬ (bad j).May := by
  have : j = 0 ∨ j = 1 ∨ j = 2 ∨ j = 3 ∨ j = 4 ∨ j = 5 ∨ j = 6 ∨ j = 7 ∨ j = 8 ∨ j = 9 ∨ j = 10 ∨ j = 11 ∨ j = 12 ∨ j = 13 := by omega
  rcases this with rfl | rfl | rfl | rfl | rfl | rfl | rfl | rfl | rfl | rfl | rfl | rfl | rfl | rfl <;> decide
def badCells : Array Value := #[.bool false, .bool false, .bool false, .int .u64 0, .bool false, .bool false, .int .u64 0, .int .u32 0, .int .i64 0, .bool false, .int .u16 0, .bool false, .bool true, .bool false, .int .u64 4294967296, .bool false, .bool false, .int .u64 0, .int .u32 0, .int .i64 0, .bool false, .int .u16 0, .bool false, .bool false, .bool false, .int .u64 0, .bool true, .bool false, .int .u64 4294967296, .int .u32 0, .int .i64 0, .bool false, .int .u16 0, .bool false, .bool false, .bool false, .int .u64 0, .bool true, .bool false, .int .u64 0, .int .u32 0, .int .i64 65536, .bool false, .int .u16 0, .bool false, .bool false, .bool false, .int .u64 0, .bool true, .bool false, .int .u64 0, .int .u32 0, .int .i64 (-1), .bool false, .int .u16 0, .bool false, .bool false, .bool false, .int .u64 1, .bool true, .bool false, .int .u64 0, .int .u32 0, .int .i64 0, .bool false, .int .u16 0, .bool false, .bool false, .bool true, .int .u64 0, .bool true, .bool false, .int .u64 0, .int .u32 0, .int .i64 0, .bool false, .int .u16 0, .bool true, .bool true, .bool false, .int .u64 0, .bool false, .bool false, .int .u64 0, .int .u32 0, .int .i64 0, .bool false, .int .u16 0, .bool false, .bool true, .bool false, .int .u64 0, .bool false, .bool true, .int .u64 0, .int .u32 0, .int .i64 0, .bool false, .int .u16 0, .bool false, .bool true, .bool false, .int .u64 0, .bool false, .bool false, .int .u64 1, .int .u32 0, .int .i64 0, .bool false, .int .u16 0, .bool false, .bool true, .bool false, .int .u64 0, .bool false, .bool false, .int .u64 0, .int .u32 1, .int .i64 0, .bool false, .int .u16 0, .bool false, .bool true, .bool false, .int .u64 0, .bool false, .bool false, .int .u64 0, .int .u32 0, .int .i64 1, .bool false, .int .u16 0, .bool false, .bool true, .bool false, .int .u64 0, .bool false, .bool false, .int .u64 0, .int .u32 0, .int .i64 0, .bool true, .int .u16 0, .bool false, .bool false, .bool false, .int .u64 0, .bool true, .bool false, .int .u64 0, .int .u32 0, .int .i64 0, .bool false, .int .u16 1]
theorem bad_part (j : Nat) (hj : j < 14) : (badCells.toList.drop (j * 11)).take 11 = (dsv (bad j)).toList := by
  have : j = 0 ∨ j = 1 ∨ j = 2 ∨ j = 3 ∨ j = 4 ∨ j = 5 ∨ j = 6 ∨ j = 7 ∨ j = 8 ∨ j = 9 ∨ j = 10 ∨ j = 11 ∨ j = 12 ∨ j = 13 := by omega
  rcases this with rfl | rfl | rfl | rfl | rfl | rfl | rfl | rfl | rfl | rfl | rfl | rfl | rfl | rfl <;> rfl
theorem bad_cells (j : Nat) (hj : j < 14) (k : Nat) (v : Value) (h : (dsv (bad j)).toList[k]? = some v) : badCells[j * 11 + k]? = some v := by
  have hk : k < 11 := by
    have := (List.getElem?_eq_some_iff.1 h).1
    simpa using this
  rw [← bad_part j hj, List.getElem?_take_of_lt hk, List.getElem?_drop] at h
  rw [← Array.getElem?_toList]
  exact h
/-- The greatest signal. -/
def dsM : Ds := ⟨true, true, true, 18446744073709551615, true, true, 18446744073709551615, 4294967295, 65535, true, 65535⟩
theorem dsM_ok : dsM.Ok := ⟨by decide, by decide, by decide, by decide, by decide⟩
theorem dsM_may : dsM.May := by decide

set_option maxHeartbeats 4000000 in
set_option maxRecDepth 100000 in
theorem walk (w : World) :
    Calls Try.prog 8 #[] w fun e w' => e = .returned (.bool true) ∧ Below w.heap.size w w' := by
  obtain ⟨g, hg⟩ : ∃ g, g = w.heap.size := ⟨_, rfl⟩
  obtain ⟨V, hV⟩ : ∃ V, V = w.alloc (.cells #[.bool true, .bool true, .bool true, .int .u64 18446744073709551615, .bool true, .bool true, .int .u64 18446744073709551615, .int .u32 4294967295, .int .i64 65535, .bool true, .int .u16 65535] 26) := ⟨_, rfl⟩
  have HM := Lib.hid (show Blk V g 26 (dsv dsM) by rw [hV, hg]; exact Blk.new _ _ _)
  have HBV := Lib.hid (show Below w.heap.size w V by rw [hV]; exact (Below.refl _ w).alloc (Nat.le_refl _) _)
  have HVE := Lib.hid hV
  have HGE := Lib.hid hg
  obtain ⟨Z, hZ⟩ : ∃ Z, txt (List.replicate 24 255) = Z := ⟨_, rfl⟩
  have hzz : Z.size = 24 := by rw [← hZ, txt_size, List.length_replicate]
  obtain ⟨T, hT⟩ : ∃ T, T = (⟨#[32, 31]⟩ : ByteArray) ++ Z := ⟨_, rfl⟩
  have HZ := Lib.hid hZ
  have HT := Lib.hid (show ((⟨#[32, 31]⟩ : ByteArray).size : Int) ≤ 8388608 ∧ (Z.size : Int) ≤ 8388608 ∧ T = (⟨#[32, 31]⟩ : ByteArray) ++ Z from ⟨by decide, by omega, hT⟩)
  have HW := Lib.hid (show txt dsM.body = T by rw [hT, ← hZ]; decide)
  clear hg hV hZ hT hzz
  go_enter Try.func8, Try.ntmps8
  go_upto_region 2 with fail
  rw [← HVE.out, ← HGE.out]
  clear HVE HGE
  have B0 : Below V.heap.size V V.drew := (Below.refl _ V).drew
  refine held_start (fun W => Below V.heap.size V W) (by kernel_rfl) (n := 5) rfl ?_
  obtain ⟨W0, hW0⟩ : ∃ W0, W0 = V.drew := ⟨_, rfl⟩
  rw [← hW0] at B0 ⊢
  clear hW0
  refine held_free 0 (.agg (dsv dsM)) rfl (by kernel_rfl) (by kernel_rfl) (by kernel_rfl) (by kernel_rfl) B0 (fun W b => by exact exec_row_ 26 (.tmp 1) (by kernel_rfl) g (by kernel_rfl) 26 _ (0, 0) _ (HM.out.below b HM.out.lt) Try.underlying26 rfl ds_size) ?_
  refine held_call 1 rfl (by kernel_rfl) (by kernel_rfl) (by kernel_rfl) (rep_any 255 24 (by decide) Z HZ.out 24 rfl W0) (fun w' h => bel_in B0 h) ?_
  intro W1 hW1
  have B1 := bel_in B0 hW1
  clear hW1 B0
  refine held_free 2 (.string T) rfl (by kernel_rfl) (by kernel_rfl) (by kernel_rfl) (by kernel_rfl) B1 (fun _ _ => by exact ex_strcat 9 9 (.const (.string ⟨#[32, 31]⟩)) (.tmp 8) (by kernel_rfl) ⟨#[32, 31]⟩ Z T (by kernel_rfl) (by kernel_rfl) HT.out.1 HT.out.2.1 HT.out.2.2) ?_
  refine held_call 3 rfl (by kernel_rfl) (by kernel_rfl) (by kernel_rfl) (lays_t dsM dsM_ok dsM_may T HW.out W1) (fun w' h => bel_in B1 h) ?_
  intro W2 hW2
  have B2 := bel_in B1 hW2
  clear hW2 B1
  refine held_free 4 (.bool false) rfl (by kernel_rfl) (by kernel_rfl) (by kernel_rfl) (by kernel_rfl) B2 (fun _ _ => by kernel_rfl) ?_
  refine held_end (by kernel_rfl) ?_
  have HB4 := Lib.hid (HBV.out.trans (B2.mono HBV.out.size))
  clear B2
  go_wp2_with fail
  obtain ⟨gb, hgb⟩ : ∃ gb, gb = W2.heap.size := ⟨_, rfl⟩
  obtain ⟨W5, hW5⟩ : ∃ W5, W5 = W2.alloc (.cells badCells 26) := ⟨_, rfl⟩
  have HK5 := Lib.hid (show Blk W5 gb 26 badCells by rw [hW5, hgb]; exact Blk.new _ _ _)
  have HB5 := Lib.hid (show Below w.heap.size w W5 by rw [hW5]; exact HB4.out.alloc HB4.out.size _)
  change Code.wp _ _ _ _ (W2.alloc (.cells badCells 26))
  rw [← hW5, ← hgb]
  clear hW5 hgb HB4
  go_loopw [3] (fun i wr => ∃ j : Nat, j ≤ 14 ∧ i = .int .i64 (j : Int) ∧ Blk wr gb 26 badCells ∧ Below w.heap.size w wr) (fun i _ => (14 - intOf i).toNat)
  case atStart => exact ⟨0, by omega, rfl, HK5.out, HB5.out⟩
  case round =>
    obtain ⟨j, hj, rfl, hK, hB⟩ := hrel
    have HK6 := Lib.hid hK
    have HB6 := Lib.hid hB
    clear hK hB HK5 HB5
    by_cases hlt : j < 14
    · have HRG := Lib.hid (show wr.rangeAt gb (j * 11) (dsv (bad j)).toList from fun k v h => by rw [HK6.out.cell]; exact bad_cells j hlt k v h)
      obtain ⟨q, hq⟩ : ∃ q, q = bad j := ⟨_, rfl⟩
      have HQO := Lib.hid (show q.Ok by rw [hq]; exact bad_ok j hlt)
      have HQN := Lib.hid (show ¬ q.May by rw [hq]; exact bad_not j hlt)
      rw [← hq] at HRG
      have i13 : (j : Int) < 14 := by omega
      have HLT := Lib.hid hlt
      clear hq hlt hj
      go_wp2_with (refine wpList_load_mid rfl 26 _ rfl gb (j * 11) ?_ (dsv q).toList _ HRG.out Try.underlying26 rfl ds_size ?_; rfl)
      refine (Encode_any q HQO.out wr).mono ?_
      rintro e W7 ⟨rfl, b⟩
      rw [encV_f q HQN.out]
      have HK7 := Lib.hid (HK6.out.below b HK6.out.lt)
      have HB7 := Lib.hid (HB6.out.trans (b.mono HB6.out.size))
      clear b HK6 HB6 HRG
      go_wp2_with fail
      go_roundw
      case rel => exact ⟨j + 1, by have := HLT.out; omega, by go_num, HK7.out, HB7.out⟩
      case measure => simp [intOf]; omega
    · obtain rfl : j = 14 := by omega
      clear hlt hj
      go_wp2_with fail
      refine (works_t wr).mono ?_
      rintro e U1 ⟨rfl, b⟩
      have HU1 := Lib.hid (HB6.out.trans (b.mono HB6.out.size))
      clear b
      go_wp2_with fail
      refine (none_t ⟨#[]⟩ (by decide) 4 (by kernel_rfl) U1).mono ?_
      rintro e U2 ⟨rfl, b⟩
      have HU2 := Lib.hid (HU1.out.trans (b.mono HU1.out.size))
      clear b
      go_wp2_with fail
      refine (none_t ⟨#[0, 1]⟩ (by decide) 7 (by kernel_rfl) U2).mono ?_
      rintro e U3 ⟨rfl, b⟩
      have HU3 := Lib.hid (HU2.out.trans (b.mono HU2.out.size))
      clear b
      go_wp2_with fail
      refine (none_t ⟨#[32, 250]⟩ (by decide) 5 (by kernel_rfl) U3).mono ?_
      rintro e U4 ⟨rfl, b⟩
      have HU4 := Lib.hid (HU3.out.trans (b.mono HU3.out.size))
      clear b
      go_wp2_with fail
      refine (none_t ⟨#[32, 4, 0, 0, 0, 0, 0, 0, 0, 0, 0]⟩ (by decide) 4 (by kernel_rfl) U4).mono ?_
      rintro e U5 ⟨rfl, b⟩
      have HU5 := Lib.hid (HU4.out.trans (b.mono HU4.out.size))
      clear b
      go_wp2_with fail
      refine (none_t ⟨#[32, 4, 0, 0, 0, 0, 0, 0, 0, 0, 0, 0, 0]⟩ (by decide) 5 (by kernel_rfl) U5).mono ?_
      rintro e U6 ⟨rfl, b⟩
      have HU6 := Lib.hid (HU5.out.trans (b.mono HU5.out.size))
      clear b
      go_wp2_with fail
      go_ret; exact ⟨rfl, HU6.out⟩

theorem own : ownKnob Try.prog.godebug = none := by kernel_rfl
theorem laidOut : laidOutB Try.prog = true := by kernel_rfl

set_option maxRecDepth 100000 in
theorem lifted (os : Os) (started : os.Started) (H : Type) (enc : TypeId × Value → H) :
    ReturnsInHanded {} Try.checked os 8 .any (Rows.dssKnownSpec.pre6 enc Try.prog Try.f8 Rows.dssKnownRow.domain false) (Rows.dssKnownSpec.post enc Try.prog Try.f8 false true false false) := by
  refine returnsInHanded_of_change (C := Try.checked) own started (by kernel_rfl) Try.func8
    (ChangeSpec.witness6 (enc := enc) (C := Try.checked) false ⟨#[], #[], []⟩ 8 (by kernel_rfl) (by kernel_rfl) (by kernel_rfl) (by kernel_rfl)) ?_
  intro W base args ds gs before hval0 hW hcnd _
  have hval : ∀ (j : Nat) t v, Try.f8.params[j]? = some t → args[j]? = some v → Value.okWide Try.prog W .any base t v := hval0
  have hW' := hW
  obtain ⟨p, q, hA0, hV, rfl, hfz, hnd⟩ := hW
  have hA : DataW.TrodAll enc Try.prog W 0 (fun _ => true) true Try.f8.params.toList args.toList ds p := hA0
  rw [Try.params8] at hA hval
  obtain ⟨rfl, rfl, rfl⟩ := trodAll_none hA
  obtain ⟨rfl, rfl⟩ := trodVars_none hV
  clear hA0 hval0
  simp only [List.append_nil] at hW'
  refine (walk W).mono fun e W' ⟨he, bel⟩ => ?_
  subst he
  exact ⟨_, rfl, _, _, _, [], _, [], hW', trodAll_mk1 (shut_bool Try.underlying4 _), rfl, rfl, bel.frame _, fun h => by cases h⟩

theorem over : Rows.dssKnownRow.holds Try.pinned (OpenSpec.ofChange Rows.dssKnownSpec) :=
  OpenClaim.holds_of_wide 8 Try.f8 rfl rfl rfl rfl rfl rfl rfl ⟨rfl, rfl, rfl, rfl, rfl⟩ rfl rfl rfl rfl rfl (by kernel_rfl) Try.func8 (by kernel_rfl)
    (of_decide_eq_true (by kernel_rfl)) (by unfold Func.isWrapper; first | (rw [if_pos (by decide +kernel)]; kernel_rfl) | (rw [if_neg (by decide +kernel)]; exact ⟨rfl, rfl⟩))
    (fun os started H enc _ => lifted os started H enc)

theorem proved : Rows.DssKnownSaid := over
#print axioms proved
end Go.Proofs.Ytdhkjhkgjfcolaa.dssKnown
