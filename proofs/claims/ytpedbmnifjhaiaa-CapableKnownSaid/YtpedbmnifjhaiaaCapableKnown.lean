/-
  CapableKnown returns true: a closed statement. No conditions.
-/
import Derived.Test.YtpedbmnifjhaiaaCapWorks
import Derived.Test.YtpedbmnifjhaiaaCapThree
import Derived.Deep.MidRow
import Derived.WalkKit
import Derived.ProofKit
import Derived.OpenShut
import Derived.ShutString
import Derived.ChangeOld
import Derived.Below
import Derived.SizedLaws
namespace Go.Proofs.Ytpedbmnifjhaiaa.capableKnown
open Go.ChangeShapes Go.WideShapes Go.ChangeAt Go.RowKit
open Go.ChangeMaps (open_string shut_string)
set_option linter.unusedVariables false

/-- The options that may not be. -/
def bad (j : Nat) : Cap := ([⟨(-1), 0, false, false, 0, 0, 0, 0⟩, ⟨5, 0, false, false, 0, 0, 0, 0⟩, ⟨0, 16, false, false, 0, 0, 0, 0⟩, ⟨0, (-1), false, false, 0, 0, 0, 0⟩, ⟨0, 0, false, false, 1, 0, 0, 0⟩, ⟨0, 0, false, false, 0, 1, 0, 0⟩, ⟨0, 0, false, false, 0, 0, 1, 0⟩, ⟨0, 0, false, false, 0, 0, 0, 1⟩, ⟨1, 0, false, false, 0, 1, 0, 0⟩, ⟨2, 0, false, false, 0, 0, 1, 0⟩, ⟨3, 0, false, false, 0, 0, 0, 1⟩, ⟨3, 0, false, false, 0, 0, 65536, 0⟩, ⟨3, 0, false, false, 0, 0, (-1), 0⟩] : List Cap).getD j Cap.zero
theorem bad_ok (j : Nat) (hj : j < 13) : (bad j).Ok := by
  have : j = 0 ∨ j = 1 ∨ j = 2 ∨ j = 3 ∨ j = 4 ∨ j = 5 ∨ j = 6 ∨ j = 7 ∨ j = 8 ∨ j = 9 ∨ j = 10 ∨ j = 11 ∨ j = 12 := by omega
  rcases this with rfl | rfl | rfl | rfl | rfl | rfl | rfl | rfl | rfl | rfl | rfl | rfl | rfl <;> exact ⟨by decide, by decide, by decide, by decide, by decide, by decide⟩
theorem bad_not (j : Nat) (hj : j < 13) : ¬ (bad j).May := by
  have : j = 0 ∨ j = 1 ∨ j = 2 ∨ j = 3 ∨ j = 4 ∨ j = 5 ∨ j = 6 ∨ j = 7 ∨ j = 8 ∨ j = 9 ∨ j = 10 ∨ j = 11 ∨ j = 12 := by omega
  rcases this with rfl | rfl | rfl | rfl | rfl | rfl | rfl | rfl | rfl | rfl | rfl | rfl | rfl <;> decide
def badCells : Array Value := #[.int .i64 (-1), .int .i64 0, .bool false, .bool false, .int .u64 0, .int .u64 0, .int .i64 0, .int .u16 0, .int .i64 5, .int .i64 0, .bool false, .bool false, .int .u64 0, .int .u64 0, .int .i64 0, .int .u16 0, .int .i64 0, .int .i64 16, .bool false, .bool false, .int .u64 0, .int .u64 0, .int .i64 0, .int .u16 0, .int .i64 0, .int .i64 (-1), .bool false, .bool false, .int .u64 0, .int .u64 0, .int .i64 0, .int .u16 0, .int .i64 0, .int .i64 0, .bool false, .bool false, .int .u64 1, .int .u64 0, .int .i64 0, .int .u16 0, .int .i64 0, .int .i64 0, .bool false, .bool false, .int .u64 0, .int .u64 1, .int .i64 0, .int .u16 0, .int .i64 0, .int .i64 0, .bool false, .bool false, .int .u64 0, .int .u64 0, .int .i64 1, .int .u16 0, .int .i64 0, .int .i64 0, .bool false, .bool false, .int .u64 0, .int .u64 0, .int .i64 0, .int .u16 1, .int .i64 1, .int .i64 0, .bool false, .bool false, .int .u64 0, .int .u64 1, .int .i64 0, .int .u16 0, .int .i64 2, .int .i64 0, .bool false, .bool false, .int .u64 0, .int .u64 0, .int .i64 1, .int .u16 0, .int .i64 3, .int .i64 0, .bool false, .bool false, .int .u64 0, .int .u64 0, .int .i64 0, .int .u16 1, .int .i64 3, .int .i64 0, .bool false, .bool false, .int .u64 0, .int .u64 0, .int .i64 65536, .int .u16 0, .int .i64 3, .int .i64 0, .bool false, .bool false, .int .u64 0, .int .u64 0, .int .i64 (-1), .int .u16 0]
theorem bad_part (j : Nat) (hj : j < 13) : (badCells.toList.drop (j * 8)).take 8 = (capv (bad j)).toList := by
  have : j = 0 ∨ j = 1 ∨ j = 2 ∨ j = 3 ∨ j = 4 ∨ j = 5 ∨ j = 6 ∨ j = 7 ∨ j = 8 ∨ j = 9 ∨ j = 10 ∨ j = 11 ∨ j = 12 := by omega
  rcases this with rfl | rfl | rfl | rfl | rfl | rfl | rfl | rfl | rfl | rfl | rfl | rfl | rfl <;> rfl
theorem bad_cells (j : Nat) (hj : j < 13) (k : Nat) (v : Value) (h : (capv (bad j)).toList[k]? = some v) : badCells[j * 8 + k]? = some v := by
  have hk : k < 8 := by
    have := (List.getElem?_eq_some_iff.1 h).1
    simpa using this
  rw [← bad_part j hj, List.getElem?_take_of_lt hk, List.getElem?_drop] at h
  rw [← Array.getElem?_toList]
  exact h
/-- The options with the greatest numbers, a form each. -/
def capM : Cap := ⟨4, 15, true, true, 18446744073709551615, 18446744073709551615, 65535, 65535⟩
def capD : Cap := ⟨3, 15, true, true, 18446744073709551615, 18446744073709551615, 65535, 0⟩
def capF : Cap := ⟨2, 15, true, true, 18446744073709551615, 18446744073709551615, 0, 0⟩
def capA : Cap := ⟨1, 15, true, true, 18446744073709551615, 0, 0, 0⟩
theorem capM_ok : capM.Ok := ⟨by decide, by decide, by decide, by decide, by decide, by decide⟩
theorem capM_may : capM.May := by decide
theorem capD_ok : capD.Ok := ⟨by decide, by decide, by decide, by decide, by decide, by decide⟩
theorem capD_may : capD.May := by decide
theorem capF_ok : capF.Ok := ⟨by decide, by decide, by decide, by decide, by decide, by decide⟩
theorem capF_may : capF.May := by decide
theorem capA_ok : capA.Ok := ⟨by decide, by decide, by decide, by decide, by decide, by decide⟩
theorem capA_may : capA.May := by decide

set_option maxHeartbeats 4000000 in
set_option maxRecDepth 100000 in
theorem walk (w : World) :
    Calls Try.prog 7 #[] w fun e w' => e = .returned (.bool true) ∧ Below w.heap.size w w' := by
  go_enter Try.func7, Try.ntmps7
  go_wp2_with fail
  refine (rep_any 255 8 (by decide) ⟨#[255, 255, 255, 255, 255, 255, 255, 255]⟩ (by decide) _ rfl _).mono ?_
  rintro e W1 ⟨rfl, b⟩
  have HB1 := Lib.hid b
  clear b
  obtain ⟨Z, hZ⟩ : ∃ Z : ByteArray, Z = ⟨#[255, 255, 255, 255, 255, 255, 255, 255]⟩ := ⟨_, rfl⟩
  rw [← hZ]
  have HZ := Lib.hid hZ
  have hzz : Z.size = 8 := by rw [hZ]; rfl
  clear hZ
  go_upto_region 4 with fail
  obtain ⟨W2, hW2⟩ : ∃ W2, W2 = W1.alloc (.cells (capv capM) 25) := ⟨_, rfl⟩
  obtain ⟨g, hg⟩ : ∃ g, g = W1.heap.size := ⟨_, rfl⟩
  have HG2 := Lib.hid (show Blk W2 g 25 (capv capM) by rw [hW2, hg]; exact Blk.new _ _ _)
  have HB2 := Lib.hid (show Below w.heap.size w W2 by rw [hW2]; exact HB1.out.alloc HB1.out.size _)
  have HGW := Lib.hid (show w.heap.size ≤ g by rw [hg]; exact HB1.out.size)
  change Code.wp _ _ _ _ (W1.alloc (.cells (capv capM) 25))
  rw [← hW2, ← hg]
  clear hW2 hg HB1
  go_cut [4, 5, 6] (fun p q r wx => ∃ a b c : Nat, p = .pointer (some ⟨a, 0, none⟩) ∧ q = .pointer (some ⟨b, 0, none⟩) ∧ r = .pointer (some ⟨c, 0, none⟩) ∧ Laid3 W2 wx capM a b c)
  case first =>
    have BW : Below W2.heap.size W2 W2.drew := (Below.refl _ W2).drew
    refine walk_start 8 (fun W => Below W2.heap.size W2 W) (by kernel_rfl) (n := 9) rfl ?_
    obtain ⟨Y0, hY0⟩ : ∃ Y0, Y0 = W2.drew := ⟨_, rfl⟩
    rw [← hY0] at BW ⊢
    clear hY0
    refine walk_free 0 (.agg (capv capM)) rfl (by kernel_rfl) (by kernel_rfl) (by kernel_rfl) (by kernel_rfl) (by kernel_rfl) (by kernel_rfl) BW (fun W b => exec_row_ 25 (.tmp 3) (by kernel_rfl) g (by kernel_rfl) 25 _ (0, 0) _ (HG2.out.below b HG2.out.lt) Try.underlying25 rfl (by kernel_rfl)) ?_
    refine walk_free 1 (.agg (capv capM)) rfl (by kernel_rfl) (by kernel_rfl) (by kernel_rfl) (by kernel_rfl) (by kernel_rfl) (by kernel_rfl) BW (fun W b => exec_row_ 25 (.tmp 3) (by kernel_rfl) g (by kernel_rfl) 25 _ (0, 0) _ (HG2.out.below b HG2.out.lt) Try.underlying25 rfl (by kernel_rfl)) ?_
    refine walk_free 2 (.agg (capv capM)) rfl (by kernel_rfl) (by kernel_rfl) (by kernel_rfl) (by kernel_rfl) (by kernel_rfl) (by kernel_rfl) BW (fun W b => exec_row_ 25 (.tmp 3) (by kernel_rfl) g (by kernel_rfl) 25 _ (0, 0) _ (HG2.out.below b HG2.out.lt) Try.underlying25 rfl (by kernel_rfl)) ?_
    obtain ⟨Y1, hY1⟩ : ∃ Y, Y = Y0.alloc (.cells (capv Cap.zero) 25) := ⟨_, rfl⟩
    obtain ⟨Y2, hY2⟩ : ∃ Y, Y = Y1.alloc (.cells (capv Cap.zero) 25) := ⟨_, rfl⟩
    obtain ⟨Y3, hY3⟩ : ∃ Y, Y = Y2.alloc (.cells (capv Cap.zero) 25) := ⟨_, rfl⟩
    obtain ⟨u, hu⟩ : ∃ n, n = Y0.heap.size := ⟨_, rfl⟩
    obtain ⟨v, hv⟩ : ∃ n, n = Y1.heap.size := ⟨_, rfl⟩
    obtain ⟨t, ht⟩ : ∃ n, n = Y2.heap.size := ⟨_, rfl⟩
    have euv : v = u + 1 := by rw [hv, hY1, World.size_alloc, hu]
    have evt : t = v + 1 := by rw [ht, hY2, World.size_alloc, hv]
    have D1 : Below W2.heap.size W2 Y1 := by rw [hY1]; exact BW.alloc BW.size _
    have D2 : Below W2.heap.size W2 Y2 := by rw [hY2]; exact D1.alloc D1.size _
    have D3 : Below W2.heap.size W2 Y3 := by rw [hY3]; exact D2.alloc D2.size _
    have mu : Blk Y3 u 25 (capv Cap.zero) := by rw [hY3, hY2, hY1, hu]; exact ((Blk.new _ _ _).alloc _).alloc _
    have mv : Blk Y3 v 25 (capv Cap.zero) := by rw [hY3, hY2, hv]; exact (Blk.new _ _ _).alloc _
    have mt : Blk Y3 t 25 (capv Cap.zero) := by rw [hY3, ht]; exact Blk.new _ _ _
    have lu : W2.heap.size ≤ u := by rw [hu]; exact BW.size
    have al0 : ∀ o : Oper, o.op = .alloc 25 → ∀ ρ, (execOp ρ o).run Try.prog Y0 = .ok (.value (.pointer (some ⟨u, 0, none⟩))) Y1 := fun o ho ρ => by rw [hY1, hu]; exact ex_alloc _ _ ho cap_zero
    have al1 : ∀ o : Oper, o.op = .alloc 25 → ∀ ρ, (execOp ρ o).run Try.prog Y1 = .ok (.value (.pointer (some ⟨v, 0, none⟩))) Y2 := fun o ho ρ => by rw [hY2, hv]; exact ex_alloc _ _ ho cap_zero
    have al2 : ∀ o : Oper, o.op = .alloc 25 → ∀ ρ, (execOp ρ o).run Try.prog Y2 = .ok (.value (.pointer (some ⟨t, 0, none⟩))) Y3 := fun o ho ρ => by rw [hY3, ht]; exact ex_alloc _ _ ho cap_zero
    clear hY1 hY2 hY3 hu hv ht
    refine walk_three 3 4 5 (by kernel_rfl) ?_ ?_ ?_
    · refine (do_lone (v := .pointer (some ⟨u, 0, none⟩)) (w' := Y1) 3 rfl (by kernel_rfl) (al0 _ (by kernel_rfl) _) D1 ?_)
      refine walk_two 4 5 (by kernel_rfl) ?_ ?_
      · refine (do_lone (v := .pointer (some ⟨v, 0, none⟩)) (w' := Y2) 4 rfl (by kernel_rfl) (al1 _ (by kernel_rfl) _) D2 ?_)
        refine walk_one 5 (by kernel_rfl) (do_lone (v := .pointer (some ⟨t, 0, none⟩)) (w' := Y3) 5 rfl (by kernel_rfl) (al2 _ (by kernel_rfl) _) D3 ?_)
        have F := three_rows capM (show u ≠ v by omega) (show u ≠ t by omega) (show v ≠ t by omega) mu mv mt D3 (by omega) (by omega) (by omega)
        obtain ⟨Z1, hZ1⟩ : ∃ Z, Z = Y3.setRow u (capv capM) := ⟨_, rfl⟩
        obtain ⟨Z2, hZ2⟩ : ∃ Z, Z = Z1.setRow v (capv capM) := ⟨_, rfl⟩
        obtain ⟨Z3, hZ3⟩ : ∃ Z, Z = Z2.setRow t (capv capM) := ⟨_, rfl⟩
        rw [← hZ1, ← hZ2, ← hZ3] at F
        refine walk_one 6 (by kernel_rfl) (do_skip (w' := Z1) 6 rfl (by kernel_rfl) (by rw [hZ1]; exact ex_store_row 25 (.tmp 4) (.tmp 13) (by kernel_rfl) u (capv capM) (by kernel_rfl) (by kernel_rfl) 25 (capv Cap.zero) mu cap_size rfl (cap_one _)) F.1.2 ?_)
        refine walk_one 7 (by kernel_rfl) (do_skip (w' := Z2) 7 rfl (by kernel_rfl) (by rw [hZ2]; exact ex_store_row 25 (.tmp 5) (.tmp 14) (by kernel_rfl) v (capv capM) (by kernel_rfl) (by kernel_rfl) 25 (capv Cap.zero) F.1.1 cap_size rfl (cap_one _)) F.2.1.2 ?_)
        refine walk_one 8 (by kernel_rfl) (do_last (w' := Z3) 8 rfl (by kernel_rfl) (by rw [hZ3]; exact ex_store_row 25 (.tmp 6) (.tmp 15) (by kernel_rfl) t (capv capM) (by kernel_rfl) (by kernel_rfl) 25 (capv Cap.zero) F.2.1.1 cap_size rfl (cap_one _)) (by kernel_rfl) ?_)
        refine walk_end_at ⟨#[.bool false, .string Z, .string ⟨#[15, 161]⟩, .pointer (some ⟨g, 0, none⟩), .pointer (some ⟨u, 0, none⟩), .pointer (some ⟨v, 0, none⟩), .pointer (some ⟨t, 0, none⟩), undef, undef, undef, undef, .string Z, .agg (capv capM), .agg (capv capM), .agg (capv capM), .agg (capv capM), undef, undef, undef, undef, undef, undef, undef, undef, undef, undef, undef, undef, undef, undef, undef, undef, undef, undef, undef, undef, undef, undef, undef, undef, undef, undef, undef, undef, undef, undef, undef, undef, undef, undef, undef, undef, undef, undef, undef, undef, undef, undef, undef, undef, undef, undef, undef, undef, undef, undef, undef, undef, undef, undef, undef, undef, undef, undef, undef, undef, undef, undef, undef, undef, undef, undef, undef, undef, undef, undef, undef, undef, undef, undef, undef, undef, undef, undef, undef, undef, undef, undef, undef, undef, undef, undef, undef, undef, undef, undef, undef, undef, undef, undef, undef, undef, undef, undef, undef], []⟩ (by kernel_rfl) (by kernel_rfl) ?_
        have HE := Lib.hid (show Laid3 W2 Z3 capM u v t from ⟨⟨by omega, by omega, by omega⟩, ⟨by omega, by omega, by omega⟩, F.2.2.1, F.2.2.2.1, F.2.2.2.2.1, F.2.2.2.2.2⟩)
        clear F hZ1 hZ2 hZ3 D1 D2 D3 mu mv mt al0 al1 al2 BW
        go_wp2_with fail
        go_meet
        exact ⟨u, v, t, rfl, rfl, rfl, HE.out⟩
      · refine (do_lone (v := .pointer (some ⟨v, 0, none⟩)) (w' := Y2) 5 rfl (by kernel_rfl) (al1 _ (by kernel_rfl) _) D2 ?_)
        refine walk_one 4 (by kernel_rfl) (do_lone (v := .pointer (some ⟨t, 0, none⟩)) (w' := Y3) 4 rfl (by kernel_rfl) (al2 _ (by kernel_rfl) _) D3 ?_)
        have F := three_rows capM (show u ≠ t by omega) (show u ≠ v by omega) (show t ≠ v by omega) mu mt mv D3 (by omega) (by omega) (by omega)
        obtain ⟨Z1, hZ1⟩ : ∃ Z, Z = Y3.setRow u (capv capM) := ⟨_, rfl⟩
        obtain ⟨Z2, hZ2⟩ : ∃ Z, Z = Z1.setRow t (capv capM) := ⟨_, rfl⟩
        obtain ⟨Z3, hZ3⟩ : ∃ Z, Z = Z2.setRow v (capv capM) := ⟨_, rfl⟩
        rw [← hZ1, ← hZ2, ← hZ3] at F
        refine walk_one 6 (by kernel_rfl) (do_skip (w' := Z1) 6 rfl (by kernel_rfl) (by rw [hZ1]; exact ex_store_row 25 (.tmp 4) (.tmp 13) (by kernel_rfl) u (capv capM) (by kernel_rfl) (by kernel_rfl) 25 (capv Cap.zero) mu cap_size rfl (cap_one _)) F.1.2 ?_)
        refine walk_one 7 (by kernel_rfl) (do_skip (w' := Z2) 7 rfl (by kernel_rfl) (by rw [hZ2]; exact ex_store_row 25 (.tmp 5) (.tmp 14) (by kernel_rfl) t (capv capM) (by kernel_rfl) (by kernel_rfl) 25 (capv Cap.zero) F.1.1 cap_size rfl (cap_one _)) F.2.1.2 ?_)
        refine walk_one 8 (by kernel_rfl) (do_last (w' := Z3) 8 rfl (by kernel_rfl) (by rw [hZ3]; exact ex_store_row 25 (.tmp 6) (.tmp 15) (by kernel_rfl) v (capv capM) (by kernel_rfl) (by kernel_rfl) 25 (capv Cap.zero) F.2.1.1 cap_size rfl (cap_one _)) (by kernel_rfl) ?_)
        refine walk_end_at ⟨#[.bool false, .string Z, .string ⟨#[15, 161]⟩, .pointer (some ⟨g, 0, none⟩), .pointer (some ⟨u, 0, none⟩), .pointer (some ⟨t, 0, none⟩), .pointer (some ⟨v, 0, none⟩), undef, undef, undef, undef, .string Z, .agg (capv capM), .agg (capv capM), .agg (capv capM), .agg (capv capM), undef, undef, undef, undef, undef, undef, undef, undef, undef, undef, undef, undef, undef, undef, undef, undef, undef, undef, undef, undef, undef, undef, undef, undef, undef, undef, undef, undef, undef, undef, undef, undef, undef, undef, undef, undef, undef, undef, undef, undef, undef, undef, undef, undef, undef, undef, undef, undef, undef, undef, undef, undef, undef, undef, undef, undef, undef, undef, undef, undef, undef, undef, undef, undef, undef, undef, undef, undef, undef, undef, undef, undef, undef, undef, undef, undef, undef, undef, undef, undef, undef, undef, undef, undef, undef, undef, undef, undef, undef, undef, undef, undef, undef, undef, undef, undef, undef, undef, undef], []⟩ (by kernel_rfl) (by kernel_rfl) ?_
        have HE := Lib.hid (show Laid3 W2 Z3 capM u t v from ⟨⟨by omega, by omega, by omega⟩, ⟨by omega, by omega, by omega⟩, F.2.2.1, F.2.2.2.1, F.2.2.2.2.1, F.2.2.2.2.2⟩)
        clear F hZ1 hZ2 hZ3 D1 D2 D3 mu mv mt al0 al1 al2 BW
        go_wp2_with fail
        go_meet
        exact ⟨u, t, v, rfl, rfl, rfl, HE.out⟩
    · refine (do_lone (v := .pointer (some ⟨u, 0, none⟩)) (w' := Y1) 4 rfl (by kernel_rfl) (al0 _ (by kernel_rfl) _) D1 ?_)
      refine walk_two 3 5 (by kernel_rfl) ?_ ?_
      · refine (do_lone (v := .pointer (some ⟨v, 0, none⟩)) (w' := Y2) 3 rfl (by kernel_rfl) (al1 _ (by kernel_rfl) _) D2 ?_)
        refine walk_one 5 (by kernel_rfl) (do_lone (v := .pointer (some ⟨t, 0, none⟩)) (w' := Y3) 5 rfl (by kernel_rfl) (al2 _ (by kernel_rfl) _) D3 ?_)
        have F := three_rows capM (show v ≠ u by omega) (show v ≠ t by omega) (show u ≠ t by omega) mv mu mt D3 (by omega) (by omega) (by omega)
        obtain ⟨Z1, hZ1⟩ : ∃ Z, Z = Y3.setRow v (capv capM) := ⟨_, rfl⟩
        obtain ⟨Z2, hZ2⟩ : ∃ Z, Z = Z1.setRow u (capv capM) := ⟨_, rfl⟩
        obtain ⟨Z3, hZ3⟩ : ∃ Z, Z = Z2.setRow t (capv capM) := ⟨_, rfl⟩
        rw [← hZ1, ← hZ2, ← hZ3] at F
        refine walk_one 6 (by kernel_rfl) (do_skip (w' := Z1) 6 rfl (by kernel_rfl) (by rw [hZ1]; exact ex_store_row 25 (.tmp 4) (.tmp 13) (by kernel_rfl) v (capv capM) (by kernel_rfl) (by kernel_rfl) 25 (capv Cap.zero) mv cap_size rfl (cap_one _)) F.1.2 ?_)
        refine walk_one 7 (by kernel_rfl) (do_skip (w' := Z2) 7 rfl (by kernel_rfl) (by rw [hZ2]; exact ex_store_row 25 (.tmp 5) (.tmp 14) (by kernel_rfl) u (capv capM) (by kernel_rfl) (by kernel_rfl) 25 (capv Cap.zero) F.1.1 cap_size rfl (cap_one _)) F.2.1.2 ?_)
        refine walk_one 8 (by kernel_rfl) (do_last (w' := Z3) 8 rfl (by kernel_rfl) (by rw [hZ3]; exact ex_store_row 25 (.tmp 6) (.tmp 15) (by kernel_rfl) t (capv capM) (by kernel_rfl) (by kernel_rfl) 25 (capv Cap.zero) F.2.1.1 cap_size rfl (cap_one _)) (by kernel_rfl) ?_)
        refine walk_end_at ⟨#[.bool false, .string Z, .string ⟨#[15, 161]⟩, .pointer (some ⟨g, 0, none⟩), .pointer (some ⟨v, 0, none⟩), .pointer (some ⟨u, 0, none⟩), .pointer (some ⟨t, 0, none⟩), undef, undef, undef, undef, .string Z, .agg (capv capM), .agg (capv capM), .agg (capv capM), .agg (capv capM), undef, undef, undef, undef, undef, undef, undef, undef, undef, undef, undef, undef, undef, undef, undef, undef, undef, undef, undef, undef, undef, undef, undef, undef, undef, undef, undef, undef, undef, undef, undef, undef, undef, undef, undef, undef, undef, undef, undef, undef, undef, undef, undef, undef, undef, undef, undef, undef, undef, undef, undef, undef, undef, undef, undef, undef, undef, undef, undef, undef, undef, undef, undef, undef, undef, undef, undef, undef, undef, undef, undef, undef, undef, undef, undef, undef, undef, undef, undef, undef, undef, undef, undef, undef, undef, undef, undef, undef, undef, undef, undef, undef, undef, undef, undef, undef, undef, undef, undef], []⟩ (by kernel_rfl) (by kernel_rfl) ?_
        have HE := Lib.hid (show Laid3 W2 Z3 capM v u t from ⟨⟨by omega, by omega, by omega⟩, ⟨by omega, by omega, by omega⟩, F.2.2.1, F.2.2.2.1, F.2.2.2.2.1, F.2.2.2.2.2⟩)
        clear F hZ1 hZ2 hZ3 D1 D2 D3 mu mv mt al0 al1 al2 BW
        go_wp2_with fail
        go_meet
        exact ⟨v, u, t, rfl, rfl, rfl, HE.out⟩
      · refine (do_lone (v := .pointer (some ⟨v, 0, none⟩)) (w' := Y2) 5 rfl (by kernel_rfl) (al1 _ (by kernel_rfl) _) D2 ?_)
        refine walk_one 3 (by kernel_rfl) (do_lone (v := .pointer (some ⟨t, 0, none⟩)) (w' := Y3) 3 rfl (by kernel_rfl) (al2 _ (by kernel_rfl) _) D3 ?_)
        have F := three_rows capM (show t ≠ u by omega) (show t ≠ v by omega) (show u ≠ v by omega) mt mu mv D3 (by omega) (by omega) (by omega)
        obtain ⟨Z1, hZ1⟩ : ∃ Z, Z = Y3.setRow t (capv capM) := ⟨_, rfl⟩
        obtain ⟨Z2, hZ2⟩ : ∃ Z, Z = Z1.setRow u (capv capM) := ⟨_, rfl⟩
        obtain ⟨Z3, hZ3⟩ : ∃ Z, Z = Z2.setRow v (capv capM) := ⟨_, rfl⟩
        rw [← hZ1, ← hZ2, ← hZ3] at F
        refine walk_one 6 (by kernel_rfl) (do_skip (w' := Z1) 6 rfl (by kernel_rfl) (by rw [hZ1]; exact ex_store_row 25 (.tmp 4) (.tmp 13) (by kernel_rfl) t (capv capM) (by kernel_rfl) (by kernel_rfl) 25 (capv Cap.zero) mt cap_size rfl (cap_one _)) F.1.2 ?_)
        refine walk_one 7 (by kernel_rfl) (do_skip (w' := Z2) 7 rfl (by kernel_rfl) (by rw [hZ2]; exact ex_store_row 25 (.tmp 5) (.tmp 14) (by kernel_rfl) u (capv capM) (by kernel_rfl) (by kernel_rfl) 25 (capv Cap.zero) F.1.1 cap_size rfl (cap_one _)) F.2.1.2 ?_)
        refine walk_one 8 (by kernel_rfl) (do_last (w' := Z3) 8 rfl (by kernel_rfl) (by rw [hZ3]; exact ex_store_row 25 (.tmp 6) (.tmp 15) (by kernel_rfl) v (capv capM) (by kernel_rfl) (by kernel_rfl) 25 (capv Cap.zero) F.2.1.1 cap_size rfl (cap_one _)) (by kernel_rfl) ?_)
        refine walk_end_at ⟨#[.bool false, .string Z, .string ⟨#[15, 161]⟩, .pointer (some ⟨g, 0, none⟩), .pointer (some ⟨t, 0, none⟩), .pointer (some ⟨u, 0, none⟩), .pointer (some ⟨v, 0, none⟩), undef, undef, undef, undef, .string Z, .agg (capv capM), .agg (capv capM), .agg (capv capM), .agg (capv capM), undef, undef, undef, undef, undef, undef, undef, undef, undef, undef, undef, undef, undef, undef, undef, undef, undef, undef, undef, undef, undef, undef, undef, undef, undef, undef, undef, undef, undef, undef, undef, undef, undef, undef, undef, undef, undef, undef, undef, undef, undef, undef, undef, undef, undef, undef, undef, undef, undef, undef, undef, undef, undef, undef, undef, undef, undef, undef, undef, undef, undef, undef, undef, undef, undef, undef, undef, undef, undef, undef, undef, undef, undef, undef, undef, undef, undef, undef, undef, undef, undef, undef, undef, undef, undef, undef, undef, undef, undef, undef, undef, undef, undef, undef, undef, undef, undef, undef, undef], []⟩ (by kernel_rfl) (by kernel_rfl) ?_
        have HE := Lib.hid (show Laid3 W2 Z3 capM t u v from ⟨⟨by omega, by omega, by omega⟩, ⟨by omega, by omega, by omega⟩, F.2.2.1, F.2.2.2.1, F.2.2.2.2.1, F.2.2.2.2.2⟩)
        clear F hZ1 hZ2 hZ3 D1 D2 D3 mu mv mt al0 al1 al2 BW
        go_wp2_with fail
        go_meet
        exact ⟨t, u, v, rfl, rfl, rfl, HE.out⟩
    · refine (do_lone (v := .pointer (some ⟨u, 0, none⟩)) (w' := Y1) 5 rfl (by kernel_rfl) (al0 _ (by kernel_rfl) _) D1 ?_)
      refine walk_two 3 4 (by kernel_rfl) ?_ ?_
      · refine (do_lone (v := .pointer (some ⟨v, 0, none⟩)) (w' := Y2) 3 rfl (by kernel_rfl) (al1 _ (by kernel_rfl) _) D2 ?_)
        refine walk_one 4 (by kernel_rfl) (do_lone (v := .pointer (some ⟨t, 0, none⟩)) (w' := Y3) 4 rfl (by kernel_rfl) (al2 _ (by kernel_rfl) _) D3 ?_)
        have F := three_rows capM (show v ≠ t by omega) (show v ≠ u by omega) (show t ≠ u by omega) mv mt mu D3 (by omega) (by omega) (by omega)
        obtain ⟨Z1, hZ1⟩ : ∃ Z, Z = Y3.setRow v (capv capM) := ⟨_, rfl⟩
        obtain ⟨Z2, hZ2⟩ : ∃ Z, Z = Z1.setRow t (capv capM) := ⟨_, rfl⟩
        obtain ⟨Z3, hZ3⟩ : ∃ Z, Z = Z2.setRow u (capv capM) := ⟨_, rfl⟩
        rw [← hZ1, ← hZ2, ← hZ3] at F
        refine walk_one 6 (by kernel_rfl) (do_skip (w' := Z1) 6 rfl (by kernel_rfl) (by rw [hZ1]; exact ex_store_row 25 (.tmp 4) (.tmp 13) (by kernel_rfl) v (capv capM) (by kernel_rfl) (by kernel_rfl) 25 (capv Cap.zero) mv cap_size rfl (cap_one _)) F.1.2 ?_)
        refine walk_one 7 (by kernel_rfl) (do_skip (w' := Z2) 7 rfl (by kernel_rfl) (by rw [hZ2]; exact ex_store_row 25 (.tmp 5) (.tmp 14) (by kernel_rfl) t (capv capM) (by kernel_rfl) (by kernel_rfl) 25 (capv Cap.zero) F.1.1 cap_size rfl (cap_one _)) F.2.1.2 ?_)
        refine walk_one 8 (by kernel_rfl) (do_last (w' := Z3) 8 rfl (by kernel_rfl) (by rw [hZ3]; exact ex_store_row 25 (.tmp 6) (.tmp 15) (by kernel_rfl) u (capv capM) (by kernel_rfl) (by kernel_rfl) 25 (capv Cap.zero) F.2.1.1 cap_size rfl (cap_one _)) (by kernel_rfl) ?_)
        refine walk_end_at ⟨#[.bool false, .string Z, .string ⟨#[15, 161]⟩, .pointer (some ⟨g, 0, none⟩), .pointer (some ⟨v, 0, none⟩), .pointer (some ⟨t, 0, none⟩), .pointer (some ⟨u, 0, none⟩), undef, undef, undef, undef, .string Z, .agg (capv capM), .agg (capv capM), .agg (capv capM), .agg (capv capM), undef, undef, undef, undef, undef, undef, undef, undef, undef, undef, undef, undef, undef, undef, undef, undef, undef, undef, undef, undef, undef, undef, undef, undef, undef, undef, undef, undef, undef, undef, undef, undef, undef, undef, undef, undef, undef, undef, undef, undef, undef, undef, undef, undef, undef, undef, undef, undef, undef, undef, undef, undef, undef, undef, undef, undef, undef, undef, undef, undef, undef, undef, undef, undef, undef, undef, undef, undef, undef, undef, undef, undef, undef, undef, undef, undef, undef, undef, undef, undef, undef, undef, undef, undef, undef, undef, undef, undef, undef, undef, undef, undef, undef, undef, undef, undef, undef, undef, undef], []⟩ (by kernel_rfl) (by kernel_rfl) ?_
        have HE := Lib.hid (show Laid3 W2 Z3 capM v t u from ⟨⟨by omega, by omega, by omega⟩, ⟨by omega, by omega, by omega⟩, F.2.2.1, F.2.2.2.1, F.2.2.2.2.1, F.2.2.2.2.2⟩)
        clear F hZ1 hZ2 hZ3 D1 D2 D3 mu mv mt al0 al1 al2 BW
        go_wp2_with fail
        go_meet
        exact ⟨v, t, u, rfl, rfl, rfl, HE.out⟩
      · refine (do_lone (v := .pointer (some ⟨v, 0, none⟩)) (w' := Y2) 4 rfl (by kernel_rfl) (al1 _ (by kernel_rfl) _) D2 ?_)
        refine walk_one 3 (by kernel_rfl) (do_lone (v := .pointer (some ⟨t, 0, none⟩)) (w' := Y3) 3 rfl (by kernel_rfl) (al2 _ (by kernel_rfl) _) D3 ?_)
        have F := three_rows capM (show t ≠ v by omega) (show t ≠ u by omega) (show v ≠ u by omega) mt mv mu D3 (by omega) (by omega) (by omega)
        obtain ⟨Z1, hZ1⟩ : ∃ Z, Z = Y3.setRow t (capv capM) := ⟨_, rfl⟩
        obtain ⟨Z2, hZ2⟩ : ∃ Z, Z = Z1.setRow v (capv capM) := ⟨_, rfl⟩
        obtain ⟨Z3, hZ3⟩ : ∃ Z, Z = Z2.setRow u (capv capM) := ⟨_, rfl⟩
        rw [← hZ1, ← hZ2, ← hZ3] at F
        refine walk_one 6 (by kernel_rfl) (do_skip (w' := Z1) 6 rfl (by kernel_rfl) (by rw [hZ1]; exact ex_store_row 25 (.tmp 4) (.tmp 13) (by kernel_rfl) t (capv capM) (by kernel_rfl) (by kernel_rfl) 25 (capv Cap.zero) mt cap_size rfl (cap_one _)) F.1.2 ?_)
        refine walk_one 7 (by kernel_rfl) (do_skip (w' := Z2) 7 rfl (by kernel_rfl) (by rw [hZ2]; exact ex_store_row 25 (.tmp 5) (.tmp 14) (by kernel_rfl) v (capv capM) (by kernel_rfl) (by kernel_rfl) 25 (capv Cap.zero) F.1.1 cap_size rfl (cap_one _)) F.2.1.2 ?_)
        refine walk_one 8 (by kernel_rfl) (do_last (w' := Z3) 8 rfl (by kernel_rfl) (by rw [hZ3]; exact ex_store_row 25 (.tmp 6) (.tmp 15) (by kernel_rfl) u (capv capM) (by kernel_rfl) (by kernel_rfl) 25 (capv Cap.zero) F.2.1.1 cap_size rfl (cap_one _)) (by kernel_rfl) ?_)
        refine walk_end_at ⟨#[.bool false, .string Z, .string ⟨#[15, 161]⟩, .pointer (some ⟨g, 0, none⟩), .pointer (some ⟨t, 0, none⟩), .pointer (some ⟨v, 0, none⟩), .pointer (some ⟨u, 0, none⟩), undef, undef, undef, undef, .string Z, .agg (capv capM), .agg (capv capM), .agg (capv capM), .agg (capv capM), undef, undef, undef, undef, undef, undef, undef, undef, undef, undef, undef, undef, undef, undef, undef, undef, undef, undef, undef, undef, undef, undef, undef, undef, undef, undef, undef, undef, undef, undef, undef, undef, undef, undef, undef, undef, undef, undef, undef, undef, undef, undef, undef, undef, undef, undef, undef, undef, undef, undef, undef, undef, undef, undef, undef, undef, undef, undef, undef, undef, undef, undef, undef, undef, undef, undef, undef, undef, undef, undef, undef, undef, undef, undef, undef, undef, undef, undef, undef, undef, undef, undef, undef, undef, undef, undef, undef, undef, undef, undef, undef, undef, undef, undef, undef, undef, undef, undef, undef], []⟩ (by kernel_rfl) (by kernel_rfl) ?_
        have HE := Lib.hid (show Laid3 W2 Z3 capM t v u from ⟨⟨by omega, by omega, by omega⟩, ⟨by omega, by omega, by omega⟩, F.2.2.1, F.2.2.2.1, F.2.2.2.2.1, F.2.2.2.2.2⟩)
        clear F hZ1 hZ2 hZ3 D1 D2 D3 mu mv mt al0 al1 al2 BW
        go_wp2_with fail
        go_meet
        exact ⟨t, v, u, rfl, rfl, rfl, HE.out⟩
  case rest =>
    obtain ⟨a, b, c, rfl, rfl, rfl, hL⟩ := hcut
    obtain ⟨V, hV⟩ : ∃ V, V = wc := ⟨_, rfl⟩
    rw [← hV] at hL ⊢
    clear hV
    obtain ⟨⟨nab, nac, nbc⟩, ⟨la, lb, lc⟩, ba, bb, bc, bV⟩ := hL
    have qg := HG2.out.lt
    have nga : g ≠ a := by omega
    have ngb : g ≠ b := by omega
    have ngc : g ≠ c := by omega
    have hw2 := HB2.out.size
    have bl0 : Below w.heap.size w V := HB2.out.trans (bV.mono hw2)
    have g0 : Blk V g 25 #[.int .i64 4, .int .i64 15, .bool true, .bool true, .int .u64 18446744073709551615, .int .u64 18446744073709551615, .int .i64 65535, .int .u16 65535] := HG2.out.below bV qg
    have a0 : Blk V a 25 #[.int .i64 4, .int .i64 15, .bool true, .bool true, .int .u64 18446744073709551615, .int .u64 18446744073709551615, .int .i64 65535, .int .u16 65535] := ba
    have b0 : Blk V b 25 #[.int .i64 4, .int .i64 15, .bool true, .bool true, .int .u64 18446744073709551615, .int .u64 18446744073709551615, .int .i64 65535, .int .u16 65535] := bb
    have c0 : Blk V c 25 #[.int .i64 4, .int .i64 15, .bool true, .bool true, .int .u64 18446744073709551615, .int .u64 18446744073709551615, .int .i64 65535, .int .u16 65535] := bc
    have k0 := a0.cell 0
    have f0 := a0.frozen 0
    obtain ⟨X1, hX1⟩ : ∃ X, X = V.setCell ⟨a, 0, none⟩ (.int .i64 3) := ⟨_, rfl⟩
    have g1 : Blk X1 g 25 #[.int .i64 4, .int .i64 15, .bool true, .bool true, .int .u64 18446744073709551615, .int .u64 18446744073709551615, .int .i64 65535, .int .u16 65535] := by rw [hX1]; exact g0.setOther nga _ _
    have a1 : Blk X1 a 25 #[.int .i64 3, .int .i64 15, .bool true, .bool true, .int .u64 18446744073709551615, .int .u64 18446744073709551615, .int .i64 65535, .int .u16 65535] := by rw [hX1]; exact Blk.set_ a0 0 _
    have b1 : Blk X1 b 25 #[.int .i64 4, .int .i64 15, .bool true, .bool true, .int .u64 18446744073709551615, .int .u64 18446744073709551615, .int .i64 65535, .int .u16 65535] := by rw [hX1]; exact b0.setOther nab.symm _ _
    have c1 : Blk X1 c 25 #[.int .i64 4, .int .i64 15, .bool true, .bool true, .int .u64 18446744073709551615, .int .u64 18446744073709551615, .int .i64 65535, .int .u16 65535] := by rw [hX1]; exact c0.setOther nac.symm _ _
    have bl1 : Below w.heap.size w X1 := by rw [hX1]; exact bl0.setCell (p := ⟨a, 0, none⟩) (show w.heap.size ≤ a by omega) _
    have k1 := a1.cell 7
    have f1 := a1.frozen 7
    obtain ⟨X2, hX2⟩ : ∃ X, X = X1.setCell ⟨a, 7, none⟩ (.int .u16 0) := ⟨_, rfl⟩
    have g2 : Blk X2 g 25 #[.int .i64 4, .int .i64 15, .bool true, .bool true, .int .u64 18446744073709551615, .int .u64 18446744073709551615, .int .i64 65535, .int .u16 65535] := by rw [hX2]; exact g1.setOther nga _ _
    have a2 : Blk X2 a 25 #[.int .i64 3, .int .i64 15, .bool true, .bool true, .int .u64 18446744073709551615, .int .u64 18446744073709551615, .int .i64 65535, .int .u16 0] := by rw [hX2]; exact Blk.set_ a1 7 _
    have b2 : Blk X2 b 25 #[.int .i64 4, .int .i64 15, .bool true, .bool true, .int .u64 18446744073709551615, .int .u64 18446744073709551615, .int .i64 65535, .int .u16 65535] := by rw [hX2]; exact b1.setOther nab.symm _ _
    have c2 : Blk X2 c 25 #[.int .i64 4, .int .i64 15, .bool true, .bool true, .int .u64 18446744073709551615, .int .u64 18446744073709551615, .int .i64 65535, .int .u16 65535] := by rw [hX2]; exact c1.setOther nac.symm _ _
    have bl2 : Below w.heap.size w X2 := by rw [hX2]; exact bl1.setCell (p := ⟨a, 7, none⟩) (show w.heap.size ≤ a by omega) _
    have k2 := b2.cell 0
    have f2 := b2.frozen 0
    obtain ⟨X3, hX3⟩ : ∃ X, X = X2.setCell ⟨b, 0, none⟩ (.int .i64 2) := ⟨_, rfl⟩
    have g3 : Blk X3 g 25 #[.int .i64 4, .int .i64 15, .bool true, .bool true, .int .u64 18446744073709551615, .int .u64 18446744073709551615, .int .i64 65535, .int .u16 65535] := by rw [hX3]; exact g2.setOther ngb _ _
    have a3 : Blk X3 a 25 #[.int .i64 3, .int .i64 15, .bool true, .bool true, .int .u64 18446744073709551615, .int .u64 18446744073709551615, .int .i64 65535, .int .u16 0] := by rw [hX3]; exact a2.setOther nab _ _
    have b3 : Blk X3 b 25 #[.int .i64 2, .int .i64 15, .bool true, .bool true, .int .u64 18446744073709551615, .int .u64 18446744073709551615, .int .i64 65535, .int .u16 65535] := by rw [hX3]; exact Blk.set_ b2 0 _
    have c3 : Blk X3 c 25 #[.int .i64 4, .int .i64 15, .bool true, .bool true, .int .u64 18446744073709551615, .int .u64 18446744073709551615, .int .i64 65535, .int .u16 65535] := by rw [hX3]; exact c2.setOther nbc.symm _ _
    have bl3 : Below w.heap.size w X3 := by rw [hX3]; exact bl2.setCell (p := ⟨b, 0, none⟩) (show w.heap.size ≤ b by omega) _
    have k3 := b3.cell 7
    have f3 := b3.frozen 7
    obtain ⟨X4, hX4⟩ : ∃ X, X = X3.setCell ⟨b, 7, none⟩ (.int .u16 0) := ⟨_, rfl⟩
    have g4 : Blk X4 g 25 #[.int .i64 4, .int .i64 15, .bool true, .bool true, .int .u64 18446744073709551615, .int .u64 18446744073709551615, .int .i64 65535, .int .u16 65535] := by rw [hX4]; exact g3.setOther ngb _ _
    have a4 : Blk X4 a 25 #[.int .i64 3, .int .i64 15, .bool true, .bool true, .int .u64 18446744073709551615, .int .u64 18446744073709551615, .int .i64 65535, .int .u16 0] := by rw [hX4]; exact a3.setOther nab _ _
    have b4 : Blk X4 b 25 #[.int .i64 2, .int .i64 15, .bool true, .bool true, .int .u64 18446744073709551615, .int .u64 18446744073709551615, .int .i64 65535, .int .u16 0] := by rw [hX4]; exact Blk.set_ b3 7 _
    have c4 : Blk X4 c 25 #[.int .i64 4, .int .i64 15, .bool true, .bool true, .int .u64 18446744073709551615, .int .u64 18446744073709551615, .int .i64 65535, .int .u16 65535] := by rw [hX4]; exact c3.setOther nbc.symm _ _
    have bl4 : Below w.heap.size w X4 := by rw [hX4]; exact bl3.setCell (p := ⟨b, 7, none⟩) (show w.heap.size ≤ b by omega) _
    have k4 := b4.cell 6
    have f4 := b4.frozen 6
    obtain ⟨X5, hX5⟩ : ∃ X, X = X4.setCell ⟨b, 6, none⟩ (.int .i64 0) := ⟨_, rfl⟩
    have g5 : Blk X5 g 25 #[.int .i64 4, .int .i64 15, .bool true, .bool true, .int .u64 18446744073709551615, .int .u64 18446744073709551615, .int .i64 65535, .int .u16 65535] := by rw [hX5]; exact g4.setOther ngb _ _
    have a5 : Blk X5 a 25 #[.int .i64 3, .int .i64 15, .bool true, .bool true, .int .u64 18446744073709551615, .int .u64 18446744073709551615, .int .i64 65535, .int .u16 0] := by rw [hX5]; exact a4.setOther nab _ _
    have b5 : Blk X5 b 25 #[.int .i64 2, .int .i64 15, .bool true, .bool true, .int .u64 18446744073709551615, .int .u64 18446744073709551615, .int .i64 0, .int .u16 0] := by rw [hX5]; exact Blk.set_ b4 6 _
    have c5 : Blk X5 c 25 #[.int .i64 4, .int .i64 15, .bool true, .bool true, .int .u64 18446744073709551615, .int .u64 18446744073709551615, .int .i64 65535, .int .u16 65535] := by rw [hX5]; exact c4.setOther nbc.symm _ _
    have bl5 : Below w.heap.size w X5 := by rw [hX5]; exact bl4.setCell (p := ⟨b, 6, none⟩) (show w.heap.size ≤ b by omega) _
    have k5 := c5.cell 0
    have f5 := c5.frozen 0
    obtain ⟨X6, hX6⟩ : ∃ X, X = X5.setCell ⟨c, 0, none⟩ (.int .i64 1) := ⟨_, rfl⟩
    have g6 : Blk X6 g 25 #[.int .i64 4, .int .i64 15, .bool true, .bool true, .int .u64 18446744073709551615, .int .u64 18446744073709551615, .int .i64 65535, .int .u16 65535] := by rw [hX6]; exact g5.setOther ngc _ _
    have a6 : Blk X6 a 25 #[.int .i64 3, .int .i64 15, .bool true, .bool true, .int .u64 18446744073709551615, .int .u64 18446744073709551615, .int .i64 65535, .int .u16 0] := by rw [hX6]; exact a5.setOther nac _ _
    have b6 : Blk X6 b 25 #[.int .i64 2, .int .i64 15, .bool true, .bool true, .int .u64 18446744073709551615, .int .u64 18446744073709551615, .int .i64 0, .int .u16 0] := by rw [hX6]; exact b5.setOther nbc _ _
    have c6 : Blk X6 c 25 #[.int .i64 1, .int .i64 15, .bool true, .bool true, .int .u64 18446744073709551615, .int .u64 18446744073709551615, .int .i64 65535, .int .u16 65535] := by rw [hX6]; exact Blk.set_ c5 0 _
    have bl6 : Below w.heap.size w X6 := by rw [hX6]; exact bl5.setCell (p := ⟨c, 0, none⟩) (show w.heap.size ≤ c by omega) _
    have k6 := c6.cell 7
    have f6 := c6.frozen 7
    obtain ⟨X7, hX7⟩ : ∃ X, X = X6.setCell ⟨c, 7, none⟩ (.int .u16 0) := ⟨_, rfl⟩
    have g7 : Blk X7 g 25 #[.int .i64 4, .int .i64 15, .bool true, .bool true, .int .u64 18446744073709551615, .int .u64 18446744073709551615, .int .i64 65535, .int .u16 65535] := by rw [hX7]; exact g6.setOther ngc _ _
    have a7 : Blk X7 a 25 #[.int .i64 3, .int .i64 15, .bool true, .bool true, .int .u64 18446744073709551615, .int .u64 18446744073709551615, .int .i64 65535, .int .u16 0] := by rw [hX7]; exact a6.setOther nac _ _
    have b7 : Blk X7 b 25 #[.int .i64 2, .int .i64 15, .bool true, .bool true, .int .u64 18446744073709551615, .int .u64 18446744073709551615, .int .i64 0, .int .u16 0] := by rw [hX7]; exact b6.setOther nbc _ _
    have c7 : Blk X7 c 25 #[.int .i64 1, .int .i64 15, .bool true, .bool true, .int .u64 18446744073709551615, .int .u64 18446744073709551615, .int .i64 65535, .int .u16 0] := by rw [hX7]; exact Blk.set_ c6 7 _
    have bl7 : Below w.heap.size w X7 := by rw [hX7]; exact bl6.setCell (p := ⟨c, 7, none⟩) (show w.heap.size ≤ c by omega) _
    have k7 := c7.cell 6
    have f7 := c7.frozen 6
    obtain ⟨X8, hX8⟩ : ∃ X, X = X7.setCell ⟨c, 6, none⟩ (.int .i64 0) := ⟨_, rfl⟩
    have g8 : Blk X8 g 25 #[.int .i64 4, .int .i64 15, .bool true, .bool true, .int .u64 18446744073709551615, .int .u64 18446744073709551615, .int .i64 65535, .int .u16 65535] := by rw [hX8]; exact g7.setOther ngc _ _
    have a8 : Blk X8 a 25 #[.int .i64 3, .int .i64 15, .bool true, .bool true, .int .u64 18446744073709551615, .int .u64 18446744073709551615, .int .i64 65535, .int .u16 0] := by rw [hX8]; exact a7.setOther nac _ _
    have b8 : Blk X8 b 25 #[.int .i64 2, .int .i64 15, .bool true, .bool true, .int .u64 18446744073709551615, .int .u64 18446744073709551615, .int .i64 0, .int .u16 0] := by rw [hX8]; exact b7.setOther nbc _ _
    have c8 : Blk X8 c 25 #[.int .i64 1, .int .i64 15, .bool true, .bool true, .int .u64 18446744073709551615, .int .u64 18446744073709551615, .int .i64 0, .int .u16 0] := by rw [hX8]; exact Blk.set_ c7 6 _
    have bl8 : Below w.heap.size w X8 := by rw [hX8]; exact bl7.setCell (p := ⟨c, 6, none⟩) (show w.heap.size ≤ c by omega) _
    have k8 := c8.cell 5
    have f8 := c8.frozen 5
    obtain ⟨X9, hX9⟩ : ∃ X, X = X8.setCell ⟨c, 5, none⟩ (.int .u64 0) := ⟨_, rfl⟩
    have g9 : Blk X9 g 25 #[.int .i64 4, .int .i64 15, .bool true, .bool true, .int .u64 18446744073709551615, .int .u64 18446744073709551615, .int .i64 65535, .int .u16 65535] := by rw [hX9]; exact g8.setOther ngc _ _
    have a9 : Blk X9 a 25 #[.int .i64 3, .int .i64 15, .bool true, .bool true, .int .u64 18446744073709551615, .int .u64 18446744073709551615, .int .i64 65535, .int .u16 0] := by rw [hX9]; exact a8.setOther nac _ _
    have b9 : Blk X9 b 25 #[.int .i64 2, .int .i64 15, .bool true, .bool true, .int .u64 18446744073709551615, .int .u64 18446744073709551615, .int .i64 0, .int .u16 0] := by rw [hX9]; exact b8.setOther nbc _ _
    have c9 : Blk X9 c 25 #[.int .i64 1, .int .i64 15, .bool true, .bool true, .int .u64 18446744073709551615, .int .u64 0, .int .i64 0, .int .u16 0] := by rw [hX9]; exact Blk.set_ c8 5 _
    have bl9 : Below w.heap.size w X9 := by rw [hX9]; exact bl8.setCell (p := ⟨c, 5, none⟩) (show w.heap.size ≤ c by omega) _
    have Hg := Lib.hid (show Blk X9 g 25 (capv capM) from g9)
    have Ha := Lib.hid (show Blk X9 a 25 (capv capD) from a9)
    have Hb := Lib.hid (show Blk X9 b 25 (capv capF) from b9)
    have Hc := Lib.hid (show Blk X9 c 25 (capv capA) from c9)
    have HBW := Lib.hid bl9
    simp only [List.getElem?_toArray, List.getElem?_cons_zero, List.getElem?_cons_succ] at k0 k1 k2 k3 k4 k5 k6 k7 k8
    have ew1 := hX1.symm
    have ew2 := hX2.symm
    have ew3 := hX3.symm
    have ew4 := hX4.symm
    have ew5 := hX5.symm
    have ew6 := hX6.symm
    have ew7 := hX7.symm
    have ew8 := hX8.symm
    have ew9 := hX9.symm
    clear nab nac nbc la lb lc ba bb bc bV qg nga ngb ngc hw2 HG2 HB2 HGW g0 g1 g2 g3 g4 g5 g6 g7 g8 g9 a0 a1 a2 a3 a4 a5 a6 a7 a8 a9 b0 b1 b2 b3 b4 b5 b6 b7 b8 b9 c0 c1 c2 c3 c4 c5 c6 c7 c8 c9 hX1 hX2 hX3 hX4 hX5 hX6 hX7 hX8 hX9 bl0 bl1 bl2 bl3 bl4 bl5 bl6 bl7 bl8 bl9
    have Hg0 := Hg
    have Ha0 := Ha
    have Hb0 := Hb
    have Hc0 := Hc
    have HB0 := HBW
    clear Hg Ha Hb Hc HBW
    go_wp2_with (first
      | (refine wpList_load_row_w (by rfl) 25 _ rfl g rfl 25 (capv capM) (0, 0) _ ?_ Try.underlying25 rfl cap_size ?_; exact Hg0.out)
      | (refine wpList_load_row_w (by rfl) 25 _ rfl a rfl 25 (capv capD) (0, 0) _ ?_ Try.underlying25 rfl cap_size ?_; exact Ha0.out)
      | (refine wpList_load_row_w (by rfl) 25 _ rfl b rfl 25 (capv capF) (0, 0) _ ?_ Try.underlying25 rfl cap_size ?_; exact Hb0.out)
      | (refine wpList_load_row_w (by rfl) 25 _ rfl c rfl 25 (capv capA) (0, 0) _ ?_ Try.underlying25 rfl cap_size ?_; exact Hc0.out))
    clear k0 f0 ew1 k1 f1 ew2 k2 f2 ew3 k3 f3 ew4 k4 f4 ew5 k5 f5 ew6 k6 f6 ew7 k7 f7 ew8 k8 f8 ew9
    refine (lays_t capM capM_ok capM_may _ (by rw [HZ.out]; decide) X9).mono ?_
    rintro e V1 ⟨rfl, b⟩
    have Hg1 := Lib.hid (Hg0.out.below b Hg0.out.lt)
    have Ha1 := Lib.hid (Ha0.out.below b Ha0.out.lt)
    have Hb1 := Lib.hid (Hb0.out.below b Hb0.out.lt)
    have Hc1 := Lib.hid (Hc0.out.below b Hc0.out.lt)
    have HB1 := Lib.hid (HB0.out.trans (b.mono HB0.out.size))
    clear b Hg0 Ha0 Hb0 Hc0 HB0
    go_wp2_with (first
      | (refine wpList_load_row_w (by rfl) 25 _ rfl g rfl 25 (capv capM) (0, 0) _ ?_ Try.underlying25 rfl cap_size ?_; exact Hg1.out)
      | (refine wpList_load_row_w (by rfl) 25 _ rfl a rfl 25 (capv capD) (0, 0) _ ?_ Try.underlying25 rfl cap_size ?_; exact Ha1.out)
      | (refine wpList_load_row_w (by rfl) 25 _ rfl b rfl 25 (capv capF) (0, 0) _ ?_ Try.underlying25 rfl cap_size ?_; exact Hb1.out)
      | (refine wpList_load_row_w (by rfl) 25 _ rfl c rfl 25 (capv capA) (0, 0) _ ?_ Try.underlying25 rfl cap_size ?_; exact Hc1.out))
    refine (lays_t capD capD_ok capD_may _ (by rw [HZ.out]; decide) V1).mono ?_
    rintro e V2 ⟨rfl, b⟩
    have Hg2 := Lib.hid (Hg1.out.below b Hg1.out.lt)
    have Ha2 := Lib.hid (Ha1.out.below b Ha1.out.lt)
    have Hb2 := Lib.hid (Hb1.out.below b Hb1.out.lt)
    have Hc2 := Lib.hid (Hc1.out.below b Hc1.out.lt)
    have HB2 := Lib.hid (HB1.out.trans (b.mono HB1.out.size))
    clear b Hg1 Ha1 Hb1 Hc1 HB1
    go_wp2_with (first
      | (refine wpList_load_row_w (by rfl) 25 _ rfl g rfl 25 (capv capM) (0, 0) _ ?_ Try.underlying25 rfl cap_size ?_; exact Hg2.out)
      | (refine wpList_load_row_w (by rfl) 25 _ rfl a rfl 25 (capv capD) (0, 0) _ ?_ Try.underlying25 rfl cap_size ?_; exact Ha2.out)
      | (refine wpList_load_row_w (by rfl) 25 _ rfl b rfl 25 (capv capF) (0, 0) _ ?_ Try.underlying25 rfl cap_size ?_; exact Hb2.out)
      | (refine wpList_load_row_w (by rfl) 25 _ rfl c rfl 25 (capv capA) (0, 0) _ ?_ Try.underlying25 rfl cap_size ?_; exact Hc2.out))
    refine (lays_t capF capF_ok capF_may _ (by rw [HZ.out]; decide) V2).mono ?_
    rintro e V3 ⟨rfl, b⟩
    have Hg3 := Lib.hid (Hg2.out.below b Hg2.out.lt)
    have Ha3 := Lib.hid (Ha2.out.below b Ha2.out.lt)
    have Hb3 := Lib.hid (Hb2.out.below b Hb2.out.lt)
    have Hc3 := Lib.hid (Hc2.out.below b Hc2.out.lt)
    have HB3 := Lib.hid (HB2.out.trans (b.mono HB2.out.size))
    clear b Hg2 Ha2 Hb2 Hc2 HB2
    go_wp2_with (first
      | (refine wpList_load_row_w (by rfl) 25 _ rfl g rfl 25 (capv capM) (0, 0) _ ?_ Try.underlying25 rfl cap_size ?_; exact Hg3.out)
      | (refine wpList_load_row_w (by rfl) 25 _ rfl a rfl 25 (capv capD) (0, 0) _ ?_ Try.underlying25 rfl cap_size ?_; exact Ha3.out)
      | (refine wpList_load_row_w (by rfl) 25 _ rfl b rfl 25 (capv capF) (0, 0) _ ?_ Try.underlying25 rfl cap_size ?_; exact Hb3.out)
      | (refine wpList_load_row_w (by rfl) 25 _ rfl c rfl 25 (capv capA) (0, 0) _ ?_ Try.underlying25 rfl cap_size ?_; exact Hc3.out))
    refine (lays_t capA capA_ok capA_may _ (by rw [HZ.out]; decide) V3).mono ?_
    rintro e V4 ⟨rfl, b⟩
    have Hg4 := Lib.hid (Hg3.out.below b Hg3.out.lt)
    have Ha4 := Lib.hid (Ha3.out.below b Ha3.out.lt)
    have Hb4 := Lib.hid (Hb3.out.below b Hb3.out.lt)
    have Hc4 := Lib.hid (Hc3.out.below b Hc3.out.lt)
    have HB4 := Lib.hid (HB3.out.trans (b.mono HB3.out.size))
    clear b Hg3 Ha3 Hb3 Hc3 HB3
    go_wp2_with fail
    obtain ⟨gb, hgb⟩ : ∃ gb, gb = V4.heap.size := ⟨_, rfl⟩
    obtain ⟨W5, hW5⟩ : ∃ W5, W5 = V4.alloc (.cells badCells 25) := ⟨_, rfl⟩
    have HK5 := Lib.hid (show Blk W5 gb 25 badCells by rw [hW5, hgb]; exact Blk.new _ _ _)
    have HB5 := Lib.hid (show Below w.heap.size w W5 by rw [hW5]; exact HB4.out.alloc HB4.out.size _)
    change Code.wp _ _ _ _ (V4.alloc (.cells badCells 25))
    rw [← hW5, ← hgb]
    clear hW5 hgb HB4 Hg4 Ha4 Hb4 Hc4
    go_loopw [8] (fun i wr => ∃ j : Nat, j ≤ 13 ∧ i = .int .i64 (j : Int) ∧ Blk wr gb 25 badCells ∧ Below w.heap.size w wr) (fun i _ => (13 - intOf i).toNat)
    case atStart => exact ⟨0, by omega, rfl, HK5.out, HB5.out⟩
    case round =>
      obtain ⟨j, hj, rfl, hK, hB⟩ := hrel
      have HK6 := Lib.hid hK
      have HB6 := Lib.hid hB
      clear hK hB HK5 HB5
      by_cases hlt : j < 13
      · have HRG := Lib.hid (show wr.rangeAt gb (j * 8) (capv (bad j)).toList from fun k v h => by rw [HK6.out.cell]; exact bad_cells j hlt k v h)
        obtain ⟨q, hq⟩ : ∃ q, q = bad j := ⟨_, rfl⟩
        have HQO := Lib.hid (show q.Ok by rw [hq]; exact bad_ok j hlt)
        have HQN := Lib.hid (show ¬ q.May by rw [hq]; exact bad_not j hlt)
        rw [← hq] at HRG
        have i13 : (j : Int) < 13 := by omega
        have HLT := Lib.hid hlt
        clear hq hlt hj
        go_wp2_with (refine wpList_load_mid rfl 25 _ rfl gb (j * 8) ?_ (capv q).toList _ HRG.out Try.underlying25 rfl cap_size ?_; rfl)
        refine (Encode_any q HQO.out wr).mono ?_
        rintro e W7 ⟨rfl, b⟩
        rw [encV_f q HQN.out]
        have HK7 := Lib.hid (HK6.out.below b HK6.out.lt)
        have HB7 := Lib.hid (HB6.out.trans (b.mono HB6.out.size))
        clear b HK6 HB6 HRG
        go_wp2_with fail
        go_roundw
        case rel => exact ⟨j + 1, by have := HLT.out; omega, by go_num, HK7.out, HB7.out⟩
        case measure => simp [intOf]; omega
      · obtain rfl : j = 13 := by omega
        clear hlt hj
        go_wp2_with fail
        refine (works_t wr).mono ?_
        rintro e U1 ⟨rfl, b⟩
        have HU1 := Lib.hid (HB6.out.trans (b.mono HB6.out.size))
        clear b
        go_wp2_with fail
        refine (none_t ⟨#[16]⟩ (by decide) 7 (by kernel_rfl) U1).mono ?_
        rintro e U2 ⟨rfl, b⟩
        have HU2 := Lib.hid (HU1.out.trans (b.mono HU1.out.size))
        clear b
        go_wp2_with fail
        refine (none_t ⟨#[1]⟩ (by decide) 5 (by kernel_rfl) U2).mono ?_
        rintro e U3 ⟨rfl, b⟩
        have HU3 := Lib.hid (HU2.out.trans (b.mono HU2.out.size))
        clear b
        go_wp2_with fail
        refine (none_t ⟨#[240, 1]⟩ (by decide) 7 (by kernel_rfl) U3).mono ?_
        rintro e U4 ⟨rfl, b⟩
        have HU4 := Lib.hid (HU3.out.trans (b.mono HU3.out.size))
        clear b
        go_wp2_with fail
        refine (none_t ⟨#[1, 0, 0]⟩ (by decide) 5 (by kernel_rfl) U4).mono ?_
        rintro e U5 ⟨rfl, b⟩
        have HU5 := Lib.hid (HU4.out.trans (b.mono HU4.out.size))
        clear b
        go_wp2_with fail
        refine (none_t ⟨#[1, 222]⟩ (by decide) 2 (by kernel_rfl) U5).mono ?_
        rintro e U6 ⟨rfl, b⟩
        have HU6 := Lib.hid (HU5.out.trans (b.mono HU5.out.size))
        clear b
        go_wp2_with fail
        go_ret; exact ⟨rfl, HU6.out⟩

theorem own : ownKnob Try.prog.godebug = none := by kernel_rfl
theorem laidOut : laidOutB Try.prog = true := by kernel_rfl

set_option maxRecDepth 100000 in
theorem lifted (os : Os) (started : os.Started) (H : Type) (enc : TypeId × Value → H) :
    ReturnsInHanded {} Try.checked os 7 .any (Rows.capableKnownSpec.pre6 enc Try.prog Try.f7 Rows.capableKnownRow.domain false) (Rows.capableKnownSpec.post enc Try.prog Try.f7 false true false false) := by
  refine returnsInHanded_of_change (C := Try.checked) own started (by kernel_rfl) Try.func7
    (ChangeSpec.witness6 (enc := enc) (C := Try.checked) false ⟨#[], #[], []⟩ 8 (by kernel_rfl) (by kernel_rfl) (by kernel_rfl) (by kernel_rfl)) ?_
  intro W base args ds gs before hval0 hW hcnd _
  have hval : ∀ (j : Nat) t v, Try.f7.params[j]? = some t → args[j]? = some v → Value.okWide Try.prog W .any base t v := hval0
  have hW' := hW
  obtain ⟨p, q, hA0, hV, rfl, hfz, hnd⟩ := hW
  have hA : DataW.TrodAll enc Try.prog W 0 (fun _ => true) true Try.f7.params.toList args.toList ds p := hA0
  rw [Try.params7] at hA hval
  obtain ⟨rfl, rfl, rfl⟩ := trodAll_none hA
  obtain ⟨rfl, rfl⟩ := trodVars_none hV
  clear hA0 hval0
  simp only [List.append_nil] at hW'
  refine (walk W).mono fun e W' ⟨he, bel⟩ => ?_
  subst he
  exact ⟨_, rfl, _, _, _, [], _, [], hW', trodAll_mk1 (shut_bool Try.underlying4 _), rfl, rfl, bel.frame _, fun h => by cases h⟩

theorem over : Rows.capableKnownRow.holds Try.pinned (OpenSpec.ofChange Rows.capableKnownSpec) :=
  OpenClaim.holds_of_wide 7 Try.f7 rfl rfl rfl rfl rfl rfl rfl ⟨rfl, rfl, rfl, rfl, rfl⟩ rfl rfl rfl rfl rfl (by kernel_rfl) Try.func7 (by kernel_rfl)
    (of_decide_eq_true (by kernel_rfl)) (by unfold Func.isWrapper; first | (rw [if_pos (by decide +kernel)]; kernel_rfl) | (rw [if_neg (by decide +kernel)]; exact ⟨rfl, rfl⟩))
    (fun os started H enc _ => lifted os started H enc)

theorem proved : Rows.CapableKnownSaid := over
#print axioms proved
end Go.Proofs.Ytpedbmnifjhaiaa.capableKnown
