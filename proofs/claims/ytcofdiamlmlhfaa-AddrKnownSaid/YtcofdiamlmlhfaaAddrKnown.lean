/-
  AddrKnown returns true: a closed statement. No conditions.
-/
import Derived.Test.YtcofdiamlmlhfaaAddrMore
import Derived.Deep.MidRow
import Derived.WalkKit
import Derived.ProofKit
import Derived.OpenShut
import Derived.ShutString
import Derived.ChangeOld
import Derived.Below
import Derived.SizedLaws
namespace Go.Proofs.Ytcofdiamlmlhfaa.addrKnown
open Go.ChangeShapes Go.WideShapes Go.ChangeAt Go.RowKit
open Go.ChangeMaps (open_string shut_string)
set_option linter.unusedVariables false

/-- The options that may not be. -/
def bad (j : Nat) : Ad := ([⟨false, 0, ⟨#[]⟩, false, 0, ⟨#[]⟩⟩, ⟨false, 0, ⟨#[10, 0, 0, 1]⟩, false, 0, ⟨#[]⟩⟩, ⟨true, 0, ⟨#[97, 98, 99]⟩, false, 0, ⟨#[]⟩⟩, ⟨true, 0, ⟨#[10, 0, 0, 1]⟩, false, 0, ⟨#[49, 50, 51, 52, 53, 54, 55, 56]⟩⟩, ⟨false, 0, ⟨#[10, 0, 0, 1]⟩, false, 0, ⟨#[49, 50, 51, 52, 53, 54, 55]⟩⟩, ⟨false, 0, ⟨#[48, 49, 50, 51, 52, 53, 54, 55, 56, 57, 97, 98, 99, 100, 101, 102]⟩, false, 0, ⟨#[49, 50, 51, 52, 53, 54, 55, 56, 57]⟩⟩, ⟨true, 256, ⟨#[10, 0, 0, 1]⟩, false, 0, ⟨#[]⟩⟩, ⟨true, (-1), ⟨#[10, 0, 0, 1]⟩, false, 0, ⟨#[]⟩⟩, ⟨true, 0, ⟨#[10, 0, 0, 1]⟩, false, 1, ⟨#[]⟩⟩, ⟨true, 0, ⟨#[10, 0, 0, 1]⟩, true, 65536, ⟨#[]⟩⟩, ⟨true, 0, ⟨#[10, 0, 0, 1]⟩, true, (-1), ⟨#[]⟩⟩] : List Ad).getD j Ad.zero
theorem bad_not (j : Nat) (hj : j < 11) : ¬ (bad j).May := by
  have : j = 0 ∨ j = 1 ∨ j = 2 ∨ j = 3 ∨ j = 4 ∨ j = 5 ∨ j = 6 ∨ j = 7 ∨ j = 8 ∨ j = 9 ∨ j = 10 := by omega
  rcases this with rfl | rfl | rfl | rfl | rfl | rfl | rfl | rfl | rfl | rfl | rfl <;> decide
def badCells : Array Value := #[.bool false, .int .i64 0, .string ⟨#[]⟩, .bool false, .int .i64 0, .string ⟨#[]⟩, .bool false, .int .i64 0, .string ⟨#[10, 0, 0, 1]⟩, .bool false, .int .i64 0, .string ⟨#[]⟩, .bool true, .int .i64 0, .string ⟨#[97, 98, 99]⟩, .bool false, .int .i64 0, .string ⟨#[]⟩, .bool true, .int .i64 0, .string ⟨#[10, 0, 0, 1]⟩, .bool false, .int .i64 0, .string ⟨#[49, 50, 51, 52, 53, 54, 55, 56]⟩, .bool false, .int .i64 0, .string ⟨#[10, 0, 0, 1]⟩, .bool false, .int .i64 0, .string ⟨#[49, 50, 51, 52, 53, 54, 55]⟩, .bool false, .int .i64 0, .string ⟨#[48, 49, 50, 51, 52, 53, 54, 55, 56, 57, 97, 98, 99, 100, 101, 102]⟩, .bool false, .int .i64 0, .string ⟨#[49, 50, 51, 52, 53, 54, 55, 56, 57]⟩, .bool true, .int .i64 256, .string ⟨#[10, 0, 0, 1]⟩, .bool false, .int .i64 0, .string ⟨#[]⟩, .bool true, .int .i64 (-1), .string ⟨#[10, 0, 0, 1]⟩, .bool false, .int .i64 0, .string ⟨#[]⟩, .bool true, .int .i64 0, .string ⟨#[10, 0, 0, 1]⟩, .bool false, .int .i64 1, .string ⟨#[]⟩, .bool true, .int .i64 0, .string ⟨#[10, 0, 0, 1]⟩, .bool true, .int .i64 65536, .string ⟨#[]⟩, .bool true, .int .i64 0, .string ⟨#[10, 0, 0, 1]⟩, .bool true, .int .i64 (-1), .string ⟨#[]⟩]
theorem bad_part (j : Nat) (hj : j < 11) : (badCells.toList.drop (j * 6)).take 6 = (adv (bad j)).toList := by
  have : j = 0 ∨ j = 1 ∨ j = 2 ∨ j = 3 ∨ j = 4 ∨ j = 5 ∨ j = 6 ∨ j = 7 ∨ j = 8 ∨ j = 9 ∨ j = 10 := by omega
  rcases this with rfl | rfl | rfl | rfl | rfl | rfl | rfl | rfl | rfl | rfl | rfl <;> rfl
theorem bad_cells (j : Nat) (hj : j < 11) (k : Nat) (v : Value) (h : (adv (bad j)).toList[k]? = some v) : badCells[j * 6 + k]? = some v := by
  have hk : k < 6 := by
    have := (List.getElem?_eq_some_iff.1 h).1
    simpa using this
  rw [← bad_part j hj, List.getElem?_take_of_lt hk, List.getElem?_drop] at h
  rw [← Array.getElem?_toList]
  exact h
/-- The greatest one, and that of all zeros. -/
def adM : Ad := ⟨false, 255, ⟨#[48, 49, 50, 51, 52, 53, 54, 55, 56, 57, 97, 98, 99, 100, 101, 102]⟩, true, 65535, ⟨#[49, 50, 51, 52, 53, 54, 55, 56]⟩⟩
def adZ : Ad := ⟨true, 0, ⟨#[0, 0, 0, 0]⟩, true, 0, ⟨#[]⟩⟩
theorem adM_may : adM.May := by decide
theorem adZ_may : adZ.May := by decide
theorem laidM (w : World) : Yes 19 #[.agg #[.bool false, .int .i64 255, .string ⟨#[48, 49, 50, 51, 52, 53, 54, 55, 56, 57, 97, 98, 99, 100, 101, 102]⟩, .bool true, .int .i64 65535, .string ⟨#[49, 50, 51, 52, 53, 54, 55, 56]⟩], .string ⟨#[48, 255, 48, 49, 50, 51, 52, 53, 54, 55, 56, 57, 97, 98, 99, 100, 101, 102, 255, 255, 49, 50, 51, 52, 53, 54, 55, 56]⟩] w := laid_t adM adM_may _ (by decide) w
theorem laidZ (w : World) : Yes 19 #[.agg #[.bool true, .int .i64 0, .string ⟨#[0, 0, 0, 0]⟩, .bool true, .int .i64 0, .string ⟨#[]⟩], .string ⟨#[49, 0, 0, 0, 0, 0, 0, 0]⟩] w := laid_t adZ adZ_may _ (by decide) w
theorem refA (T : ByteArray) (hT : T = (⟨#[64]⟩ : ByteArray) ++ txt (List.replicate 38 0)) (w : World) : Yes 21 #[.string T, .int .i64 7, .int .i64 5] w := by
  subst hT
  exact refused_t _ (by decide) 7 5 (by kernel_rfl) (by kernel_rfl) w
theorem refB (w : World) : Yes 21 #[.string ⟨#[80]⟩, .int .i64 7, .int .i64 7] w := refused_t _ (by decide) 7 7 (by kernel_rfl) (by kernel_rfl) w
theorem refC (w : World) : Yes 21 #[.string ⟨#[48]⟩, .int .i64 5, .int .i64 7] w := refused_t _ (by decide) 5 7 (by kernel_rfl) (by kernel_rfl) w

set_option maxHeartbeats 4000000 in
set_option maxRecDepth 100000 in
theorem walk (w : World) :
    Calls Try.prog 8 #[] w fun e w' => e = .returned (.bool true) ∧ Below w.heap.size w w' := by
  obtain ⟨Z, hZ⟩ : ∃ Z, Z = txt (List.replicate 38 0) := ⟨_, rfl⟩
  have HZ := Lib.hid hZ
  have HZ38 := Lib.hid (show Z.size = 38 by rw [hZ, txt_size, List.length_replicate])
  obtain ⟨Y, hY⟩ : ∃ Y, Y = Z.extract 0 37 := ⟨_, rfl⟩
  have HY := Lib.hid hY
  have hy37 : Y.size = 37 := by rw [hY, ByteArray.size_extract]; have := HZ38.out; omega
  have HYS := Lib.hid hy37
  obtain ⟨X, hX⟩ : ∃ X, X = txt (64 :: Y.data.toList) := ⟨_, rfl⟩
  have HXE := Lib.hid (show encRV Y = .tuple #[.string X, .int .i64 0] by rw [encRV_t Y (by omega), hX])
  have HXS := Lib.hid (show X.size = 38 by rw [hX, one_size, len_data, hy37])
  obtain ⟨U, hU⟩ : ∃ U, U = (⟨#[64]⟩ : ByteArray) ++ Z := ⟨_, rfl⟩
  have HU := Lib.hid hU
  clear hZ hY hy37 hX hU
  go_enter Try.func8, Try.ntmps8
  go_upto_region 2 with fail
  obtain ⟨gb, hgb⟩ : ∃ gb, gb = w.heap.size := ⟨_, rfl⟩
  obtain ⟨W5, hW5⟩ : ∃ W5, W5 = w.alloc (.cells badCells 23) := ⟨_, rfl⟩
  have HK5 := Lib.hid (show Blk W5 gb 23 badCells by rw [hW5, hgb]; exact Blk.new _ _ _)
  have HB5 := Lib.hid (show Below w.heap.size w W5 by rw [hW5]; exact (Below.refl _ w).alloc (Nat.le_refl _) _)
  change Code.wp _ _ _ _ (w.alloc (.cells badCells 23))
  rw [← hW5, ← hgb]
  have HGB := Lib.hid hgb
  clear hW5 hgb
  go_wp2_with fail
  go_loopw [2] (fun i wr => ∃ j : Nat, j ≤ 11 ∧ i = .int .i64 (j : Int) ∧ Blk wr gb 23 badCells ∧ Below w.heap.size w wr) (fun i _ => (11 - intOf i).toNat)
  case atStart => exact ⟨0, by omega, rfl, HK5.out, HB5.out⟩
  case round =>
    obtain ⟨j, hj, rfl, hK, hB⟩ := hrel
    have HK6 := Lib.hid hK
    have HB6 := Lib.hid hB
    clear hK hB HK5 HB5
    by_cases hlt : j < 11
    · have HRG := Lib.hid (show wr.rangeAt gb (j * 6) (adv (bad j)).toList from fun k v h => by rw [HK6.out.cell]; exact bad_cells j hlt k v h)
      obtain ⟨q, hq⟩ : ∃ q, q = bad j := ⟨_, rfl⟩
      have HQN := Lib.hid (show ¬ q.May by rw [hq]; exact bad_not j hlt)
      rw [← hq] at HRG
      have i13 : (j : Int) < 11 := by omega
      have HLT := Lib.hid hlt
      clear hq hlt hj
      go_wp2_with (refine wpList_load_mid rfl 23 _ rfl gb (j * 6) ?_ (adv q).toList _ HRG.out Try.underlying23 rfl ad_size ?_; rfl)
      refine (EncodeAdd_any q wr).mono ?_
      rintro e W7 ⟨rfl, b⟩
      rw [encV_f q HQN.out]
      have HK7 := Lib.hid (HK6.out.below b HK6.out.lt)
      have HB7 := Lib.hid (HB6.out.trans (b.mono HB6.out.size))
      clear b HK6 HB6 HRG
      go_wp2_with fail
      go_roundw
      case rel => exact ⟨j + 1, by have := HLT.out; omega, by go_num, HK7.out, HB7.out⟩
      case measure => simp [intOf]; omega
    · obtain rfl : j = 11 := by omega
      clear hlt hj HK6
      have hmk := make_any wr 38 38 rfl (by decide)
      have hcv := zeros_text wr 38 38
      rw [← HZ.out] at hcv
      obtain ⟨V, hV⟩ : ∃ V, V = wr.alloc (.cells (byv (List.replicate 38 0)) 5) := ⟨_, rfl⟩
      have HU0 := Lib.hid (show Below w.heap.size w V by rw [hV]; exact HB6.out.alloc HB6.out.size _)
      rw [← hV] at hmk hcv
      clear hV HB6
      go_wp2_with fail
      clear hmk hcv
      refine (EncodeRemove_any ⟨#[]⟩ (by decide) V).mono ?_
      rintro e W1 ⟨rfl, b⟩
      rw [show encRV ⟨#[]⟩ = .tuple #[.string ⟨#[]⟩, .int .i64 2] by kernel_rfl]
      have HU1 := Lib.hid (HU0.out.trans (b.mono HU0.out.size))
      clear b HU0
      go_wp2_with fail
      refine (EncodeRemove_any Z (by have := HZ38.out; omega) W1).mono ?_
      rintro e W2 ⟨rfl, b⟩
      rw [encRV_f Z (by have := HZ38.out; omega)]
      have HU2 := Lib.hid (HU1.out.trans (b.mono HU1.out.size))
      clear b HU1
      have z37 : (37 : Int) ≤ (Z.size : Int) := by have := HZ38.out; omega
      go_wp2_with fail
      rw [← HY.out]
      clear z37
      refine (EncodeRemove_any Y (by have := HYS.out; omega) W2).mono ?_
      rintro e W3 ⟨rfl, b⟩
      rw [HXE.out]
      have HU3 := Lib.hid (HU2.out.trans (b.mono HU2.out.size))
      clear b HU2
      have hx38 : ((X.size : Int) == 38) = true := by rw [beq_iff_eq]; have := HXS.out; omega
      have hcat := fun W => run_string_add (P := Try.prog) W ⟨#[64]⟩ Z (by decide) (by have := HZ38.out; omega)
      rw [← HU.out] at hcat
      go_wp2_with fail
      refine (laidM W3).mono ?_
      rintro e W4 ⟨rfl, b⟩
      have HU4 := Lib.hid (HU3.out.trans (b.mono HU3.out.size))
      clear b HU3
      go_wp2_with fail
      refine (laidZ W4).mono ?_
      rintro e W5 ⟨rfl, b⟩
      have HU5 := Lib.hid (HU4.out.trans (b.mono HU4.out.size))
      clear b HU4
      go_wp2_with fail
      refine (works_t W5).mono ?_
      rintro e W6 ⟨rfl, b⟩
      have HU6 := Lib.hid (HU5.out.trans (b.mono HU5.out.size))
      clear b HU5
      go_wp2_with fail
      refine (refA U (by rw [HU.out, HZ.out]) W6).mono ?_
      rintro e W7 ⟨rfl, b⟩
      have HU7 := Lib.hid (HU6.out.trans (b.mono HU6.out.size))
      clear b HU6
      go_wp2_with fail
      refine (refB W7).mono ?_
      rintro e W8 ⟨rfl, b⟩
      have HU8 := Lib.hid (HU7.out.trans (b.mono HU7.out.size))
      clear b HU7
      go_wp2_with fail
      refine (refC W8).mono ?_
      rintro e W9 ⟨rfl, b⟩
      have HU9 := Lib.hid (HU8.out.trans (b.mono HU8.out.size))
      clear b HU8
      go_wp2_with fail
      go_ret; exact ⟨rfl, by have q := HU9.out; first | exact q | (rw [HGB.out]; exact q)⟩

theorem own : ownKnob Try.prog.godebug = none := by kernel_rfl
theorem laidOut : laidOutB Try.prog = true := by kernel_rfl

set_option maxRecDepth 100000 in
theorem lifted (os : Os) (started : os.Started) (H : Type) (enc : TypeId × Value → H) :
    ReturnsInHanded {} Try.checked os 8 .any (Rows.addrKnownSpec.pre6 enc Try.prog Try.f8 Rows.addrKnownRow.domain false) (Rows.addrKnownSpec.post enc Try.prog Try.f8 false true false false) := by
  refine returnsInHanded_of_change (C := Try.checked) own started (by kernel_rfl) Try.func8
    (ChangeSpec.witness6 (enc := enc) (C := Try.checked) false ⟨#[], #[], []⟩ 8 (by kernel_rfl) (by kernel_rfl) (by kernel_rfl) (by kernel_rfl)) ?_
  intro W base args ds gs before hval0 hW hcnd _
  have hval : ∀ (j : Nat) t v, Try.f8.params[j]? = some t → args[j]? = some v → Value.okWide Try.prog W .any base t v := hval0
  have hW' := hW
  obtain ⟨p, q, hA0, hV, rfl, hfz, hnd⟩ := hW
  have hA : DataW.TrodAll enc Try.prog W 0 (fun _ => true) true Try.f8.params.toList args.toList ds p := hA0
  rw [Try.params8] at hA hval
  obtain ⟨rfl, rfl, rfl⟩ := trodAll_none hA
  obtain ⟨rfl, rfl⟩ := trodVars_none hV
  clear hA0 hval0
  simp only [List.append_nil] at hW'
  refine (walk W).mono fun e W' ⟨he, bel⟩ => ?_
  subst he
  exact ⟨_, rfl, _, _, _, [], _, [], hW', trodAll_mk1 (shut_bool Try.underlying4 _), rfl, rfl, bel.frame _, fun h => by cases h⟩

theorem over : Rows.addrKnownRow.holds Try.pinned (OpenSpec.ofChange Rows.addrKnownSpec) :=
  OpenClaim.holds_of_wide 8 Try.f8 rfl rfl rfl rfl rfl rfl rfl ⟨rfl, rfl, rfl, rfl, rfl⟩ rfl rfl rfl rfl rfl (by kernel_rfl) Try.func8 (by kernel_rfl)
    (of_decide_eq_true (by kernel_rfl)) (by unfold Func.isWrapper; first | (rw [if_pos (by decide +kernel)]; kernel_rfl) | (rw [if_neg (by decide +kernel)]; exact ⟨rfl, rfl⟩))
    (fun os started H enc _ => lifted os started H enc)

theorem proved : Rows.AddrKnownSaid := over
#print axioms proved
end Go.Proofs.Ytcofdiamlmlhfaa.addrKnown
