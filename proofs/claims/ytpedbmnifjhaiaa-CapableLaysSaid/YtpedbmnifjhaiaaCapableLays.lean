/-
  CapableLays returns true for all options and ints. No conditions.
-/
import Derived.Test.YtpedbmnifjhaiaaCapWorks
import Derived.Test.YtpedbmnifjhaiaaCapFit
import Derived.Test.YtpedbmnifjhaiaaCapOpen
import Derived.Test.YtpedbmnifjhaiaaCapRefE
import Derived.Test.YtpedbmnifjhaiaaCapThree
import Derived.WalkKit
import Derived.ProofKit
import Derived.OpenShut
import Derived.ShutString
import Derived.ChangeOld
import Derived.Below
import Derived.SizedLaws
namespace Go.Proofs.Ytpedbmnifjhaiaa.capableLays
open Go.ChangeShapes Go.WideShapes Go.ChangeAt Go.RowKit
open Go.ChangeMaps (open_string shut_string)
set_option linter.unusedVariables false

set_option maxHeartbeats 4000000 in
set_option maxRecDepth 100000 in
theorem walk (x : Cap) (hx : x.Ok) (other : Int) (ho : -9223372036854775808 ≤ other ∧ other ≤ 9223372036854775807) (w : World) :
    Calls Try.prog 3 #[.agg (capv x), .int .i64 other] w fun e w' => e = .returned (.bool true) ∧ Below w.heap.size w w' := by
  have HX := Lib.hid hx
  have HO := Lib.hid ho
  have HC := Lib.hid (Blk.new w 25 (capv x))
  have HB := Lib.hid ((Below.refl _ w).alloc (Nat.le_refl _) (.cells (capv x) 25))
  have HL := Lib.hid (show w.heap.size < (w.alloc (.cells (capv x) 25)).heap.size by simp)
  clear hx ho
  go_enter Try.func3, Try.ntmps3
  go_wp2_with (refine wpList_load_row rfl 25 _ rfl w.heap.size rfl 25 (capv x) (0, 0) _ ?_ Try.underlying25 rfl cap_size ?_; exact HC.out)
  refine (fit_any x HX.out _).mono ?_
  rintro e W1 ⟨rfl, b⟩
  have HC1 := Lib.hid (HC.out.below b HL.out)
  have HB1 := Lib.hid (HB.out.trans (b.mono HB.out.size))
  clear b HC HB HL
  obtain ⟨y, hy⟩ : ∃ y, y = fitc x := ⟨_, rfl⟩
  have HYO := Lib.hid (show y.Ok by rw [hy]; exact fit_ok x HX.out)
  rw [← hy]
  clear hy
  go_upto_region 2 with fail
  obtain ⟨W2, hW2⟩ : ∃ W2, W2 = W1.alloc (.cells (capv y) 25) := ⟨_, rfl⟩
  obtain ⟨g, hg⟩ : ∃ g, g = W1.heap.size := ⟨_, rfl⟩
  have HG2 := Lib.hid (show Blk W2 g 25 (capv y) by rw [hW2, hg]; exact Blk.new _ _ _)
  have HC2 := Lib.hid (show Blk W2 w.heap.size 25 (capv x) by rw [hW2]; exact HC1.out.alloc _)
  have HB2 := Lib.hid (show Below w.heap.size w W2 by rw [hW2]; exact HB1.out.alloc HB1.out.size _)
  have HGW := Lib.hid (show w.heap.size < g by rw [hg]; exact HC1.out.lt)
  change Code.wp _ _ _ _ (W1.alloc (.cells (capv y) 25))
  rw [← hW2, ← hg]
  clear hW2 hg HC1 HB1
  go_cut [6, 7, 8] (fun p q r wx => ∃ a b c : Nat, p = .pointer (some ⟨a, 0, none⟩) ∧ q = .pointer (some ⟨b, 0, none⟩) ∧ r = .pointer (some ⟨c, 0, none⟩) ∧ Laid3 W2 wx y a b c)
  case first =>
    have BW : Below W2.heap.size W2 W2.drew := (Below.refl _ W2).drew
    refine walk_start 8 (fun W => Below W2.heap.size W2 W) (by kernel_rfl) (n := 9) rfl ?_
    obtain ⟨Y0, hY0⟩ : ∃ Y0, Y0 = W2.drew := ⟨_, rfl⟩
    rw [← hY0] at BW ⊢
    clear hY0
    refine walk_free 0 (.agg (capv y)) rfl (by kernel_rfl) (by kernel_rfl) (by kernel_rfl) (by kernel_rfl) (by kernel_rfl) (by kernel_rfl) BW (fun W b => exec_row_ 25 (.tmp 5) (by kernel_rfl) g (by kernel_rfl) 25 _ (0, 0) _ (HG2.out.below b HG2.out.lt) Try.underlying25 rfl (by kernel_rfl)) ?_
    refine walk_free 1 (.agg (capv y)) rfl (by kernel_rfl) (by kernel_rfl) (by kernel_rfl) (by kernel_rfl) (by kernel_rfl) (by kernel_rfl) BW (fun W b => exec_row_ 25 (.tmp 5) (by kernel_rfl) g (by kernel_rfl) 25 _ (0, 0) _ (HG2.out.below b HG2.out.lt) Try.underlying25 rfl (by kernel_rfl)) ?_
    refine walk_free 2 (.agg (capv y)) rfl (by kernel_rfl) (by kernel_rfl) (by kernel_rfl) (by kernel_rfl) (by kernel_rfl) (by kernel_rfl) BW (fun W b => exec_row_ 25 (.tmp 5) (by kernel_rfl) g (by kernel_rfl) 25 _ (0, 0) _ (HG2.out.below b HG2.out.lt) Try.underlying25 rfl (by kernel_rfl)) ?_
    obtain ⟨Y1, hY1⟩ : ∃ Y, Y = Y0.alloc (.cells (capv Cap.zero) 25) := ⟨_, rfl⟩
    obtain ⟨Y2, hY2⟩ : ∃ Y, Y = Y1.alloc (.cells (capv Cap.zero) 25) := ⟨_, rfl⟩
    obtain ⟨Y3, hY3⟩ : ∃ Y, Y = Y2.alloc (.cells (capv Cap.zero) 25) := ⟨_, rfl⟩
    obtain ⟨u, hu⟩ : ∃ n, n = Y0.heap.size := ⟨_, rfl⟩
    obtain ⟨v, hv⟩ : ∃ n, n = Y1.heap.size := ⟨_, rfl⟩
    obtain ⟨t, ht⟩ : ∃ n, n = Y2.heap.size := ⟨_, rfl⟩
    have euv : v = u + 1 := by rw [hv, hY1, World.size_alloc, hu]
    have evt : t = v + 1 := by rw [ht, hY2, World.size_alloc, hv]
    have D1 : Below W2.heap.size W2 Y1 := by rw [hY1]; exact BW.alloc BW.size _
    have D2 : Below W2.heap.size W2 Y2 := by rw [hY2]; exact D1.alloc D1.size _
    have D3 : Below W2.heap.size W2 Y3 := by rw [hY3]; exact D2.alloc D2.size _
    have mu : Blk Y3 u 25 (capv Cap.zero) := by rw [hY3, hY2, hY1, hu]; exact ((Blk.new _ _ _).alloc _).alloc _
    have mv : Blk Y3 v 25 (capv Cap.zero) := by rw [hY3, hY2, hv]; exact (Blk.new _ _ _).alloc _
    have mt : Blk Y3 t 25 (capv Cap.zero) := by rw [hY3, ht]; exact Blk.new _ _ _
    have lu : W2.heap.size ≤ u := by rw [hu]; exact BW.size
    have al0 : ∀ o : Oper, o.op = .alloc 25 → ∀ ρ, (execOp ρ o).run Try.prog Y0 = .ok (.value (.pointer (some ⟨u, 0, none⟩))) Y1 := fun o ho ρ => by rw [hY1, hu]; exact ex_alloc _ _ ho cap_zero
    have al1 : ∀ o : Oper, o.op = .alloc 25 → ∀ ρ, (execOp ρ o).run Try.prog Y1 = .ok (.value (.pointer (some ⟨v, 0, none⟩))) Y2 := fun o ho ρ => by rw [hY2, hv]; exact ex_alloc _ _ ho cap_zero
    have al2 : ∀ o : Oper, o.op = .alloc 25 → ∀ ρ, (execOp ρ o).run Try.prog Y2 = .ok (.value (.pointer (some ⟨t, 0, none⟩))) Y3 := fun o ho ρ => by rw [hY3, ht]; exact ex_alloc _ _ ho cap_zero
    clear hY1 hY2 hY3 hu hv ht
    refine walk_three 3 4 5 (by kernel_rfl) ?_ ?_ ?_
    · refine (do_lone (v := .pointer (some ⟨u, 0, none⟩)) (w' := Y1) 3 rfl (by kernel_rfl) (al0 _ (by kernel_rfl) _) D1 ?_)
      refine walk_two 4 5 (by kernel_rfl) ?_ ?_
      · refine (do_lone (v := .pointer (some ⟨v, 0, none⟩)) (w' := Y2) 4 rfl (by kernel_rfl) (al1 _ (by kernel_rfl) _) D2 ?_)
        refine walk_one 5 (by kernel_rfl) (do_lone (v := .pointer (some ⟨t, 0, none⟩)) (w' := Y3) 5 rfl (by kernel_rfl) (al2 _ (by kernel_rfl) _) D3 ?_)
        have F := three_rows y (show u ≠ v by omega) (show u ≠ t by omega) (show v ≠ t by omega) mu mv mt D3 (by omega) (by omega) (by omega)
        obtain ⟨Z1, hZ1⟩ : ∃ Z, Z = Y3.setRow u (capv y) := ⟨_, rfl⟩
        obtain ⟨Z2, hZ2⟩ : ∃ Z, Z = Z1.setRow v (capv y) := ⟨_, rfl⟩
        obtain ⟨Z3, hZ3⟩ : ∃ Z, Z = Z2.setRow t (capv y) := ⟨_, rfl⟩
        rw [← hZ1, ← hZ2, ← hZ3] at F
        refine walk_one 6 (by kernel_rfl) (do_skip (w' := Z1) 6 rfl (by kernel_rfl) (by rw [hZ1]; exact ex_store_row 25 (.tmp 6) (.tmp 17) (by kernel_rfl) u (capv y) (by kernel_rfl) (by kernel_rfl) 25 (capv Cap.zero) mu cap_size rfl (cap_one _)) F.1.2 ?_)
        refine walk_one 7 (by kernel_rfl) (do_skip (w' := Z2) 7 rfl (by kernel_rfl) (by rw [hZ2]; exact ex_store_row 25 (.tmp 7) (.tmp 18) (by kernel_rfl) v (capv y) (by kernel_rfl) (by kernel_rfl) 25 (capv Cap.zero) F.1.1 cap_size rfl (cap_one _)) F.2.1.2 ?_)
        refine walk_one 8 (by kernel_rfl) (do_last (w' := Z3) 8 rfl (by kernel_rfl) (by rw [hZ3]; exact ex_store_row 25 (.tmp 8) (.tmp 19) (by kernel_rfl) t (capv y) (by kernel_rfl) (by kernel_rfl) 25 (capv Cap.zero) F.2.1.1 cap_size rfl (cap_one _)) (by kernel_rfl) ?_)
        refine walk_end_at ⟨#[.agg (capv x), .int .i64 other, .pointer (some ⟨w.heap.size, 0, none⟩), undef, .bool false, .pointer (some ⟨g, 0, none⟩), .pointer (some ⟨u, 0, none⟩), .pointer (some ⟨v, 0, none⟩), .pointer (some ⟨t, 0, none⟩), undef, undef, undef, undef, undef, undef, .agg (capv x), .agg (capv y), .agg (capv y), .agg (capv y), .agg (capv y), undef, undef, undef, undef, undef, undef, undef, undef, undef, undef, undef, undef, undef, undef, undef, undef, undef, undef, undef, undef, undef, undef, undef, undef, undef, undef, undef, undef, undef, undef, undef, undef, undef, undef, undef], []⟩ (by kernel_rfl) (by kernel_rfl) ?_
        have HE := Lib.hid (show Laid3 W2 Z3 y u v t from ⟨⟨by omega, by omega, by omega⟩, ⟨by omega, by omega, by omega⟩, F.2.2.1, F.2.2.2.1, F.2.2.2.2.1, F.2.2.2.2.2⟩)
        clear F hZ1 hZ2 hZ3 D1 D2 D3 mu mv mt al0 al1 al2 BW
        go_wp2_with fail
        go_meet
        exact ⟨u, v, t, rfl, rfl, rfl, HE.out⟩
      · refine (do_lone (v := .pointer (some ⟨v, 0, none⟩)) (w' := Y2) 5 rfl (by kernel_rfl) (al1 _ (by kernel_rfl) _) D2 ?_)
        refine walk_one 4 (by kernel_rfl) (do_lone (v := .pointer (some ⟨t, 0, none⟩)) (w' := Y3) 4 rfl (by kernel_rfl) (al2 _ (by kernel_rfl) _) D3 ?_)
        have F := three_rows y (show u ≠ t by omega) (show u ≠ v by omega) (show t ≠ v by omega) mu mt mv D3 (by omega) (by omega) (by omega)
        obtain ⟨Z1, hZ1⟩ : ∃ Z, Z = Y3.setRow u (capv y) := ⟨_, rfl⟩
        obtain ⟨Z2, hZ2⟩ : ∃ Z, Z = Z1.setRow t (capv y) := ⟨_, rfl⟩
        obtain ⟨Z3, hZ3⟩ : ∃ Z, Z = Z2.setRow v (capv y) := ⟨_, rfl⟩
        rw [← hZ1, ← hZ2, ← hZ3] at F
        refine walk_one 6 (by kernel_rfl) (do_skip (w' := Z1) 6 rfl (by kernel_rfl) (by rw [hZ1]; exact ex_store_row 25 (.tmp 6) (.tmp 17) (by kernel_rfl) u (capv y) (by kernel_rfl) (by kernel_rfl) 25 (capv Cap.zero) mu cap_size rfl (cap_one _)) F.1.2 ?_)
        refine walk_one 7 (by kernel_rfl) (do_skip (w' := Z2) 7 rfl (by kernel_rfl) (by rw [hZ2]; exact ex_store_row 25 (.tmp 7) (.tmp 18) (by kernel_rfl) t (capv y) (by kernel_rfl) (by kernel_rfl) 25 (capv Cap.zero) F.1.1 cap_size rfl (cap_one _)) F.2.1.2 ?_)
        refine walk_one 8 (by kernel_rfl) (do_last (w' := Z3) 8 rfl (by kernel_rfl) (by rw [hZ3]; exact ex_store_row 25 (.tmp 8) (.tmp 19) (by kernel_rfl) v (capv y) (by kernel_rfl) (by kernel_rfl) 25 (capv Cap.zero) F.2.1.1 cap_size rfl (cap_one _)) (by kernel_rfl) ?_)
        refine walk_end_at ⟨#[.agg (capv x), .int .i64 other, .pointer (some ⟨w.heap.size, 0, none⟩), undef, .bool false, .pointer (some ⟨g, 0, none⟩), .pointer (some ⟨u, 0, none⟩), .pointer (some ⟨t, 0, none⟩), .pointer (some ⟨v, 0, none⟩), undef, undef, undef, undef, undef, undef, .agg (capv x), .agg (capv y), .agg (capv y), .agg (capv y), .agg (capv y), undef, undef, undef, undef, undef, undef, undef, undef, undef, undef, undef, undef, undef, undef, undef, undef, undef, undef, undef, undef, undef, undef, undef, undef, undef, undef, undef, undef, undef, undef, undef, undef, undef, undef, undef], []⟩ (by kernel_rfl) (by kernel_rfl) ?_
        have HE := Lib.hid (show Laid3 W2 Z3 y u t v from ⟨⟨by omega, by omega, by omega⟩, ⟨by omega, by omega, by omega⟩, F.2.2.1, F.2.2.2.1, F.2.2.2.2.1, F.2.2.2.2.2⟩)
        clear F hZ1 hZ2 hZ3 D1 D2 D3 mu mv mt al0 al1 al2 BW
        go_wp2_with fail
        go_meet
        exact ⟨u, t, v, rfl, rfl, rfl, HE.out⟩
    · refine (do_lone (v := .pointer (some ⟨u, 0, none⟩)) (w' := Y1) 4 rfl (by kernel_rfl) (al0 _ (by kernel_rfl) _) D1 ?_)
      refine walk_two 3 5 (by kernel_rfl) ?_ ?_
      · refine (do_lone (v := .pointer (some ⟨v, 0, none⟩)) (w' := Y2) 3 rfl (by kernel_rfl) (al1 _ (by kernel_rfl) _) D2 ?_)
        refine walk_one 5 (by kernel_rfl) (do_lone (v := .pointer (some ⟨t, 0, none⟩)) (w' := Y3) 5 rfl (by kernel_rfl) (al2 _ (by kernel_rfl) _) D3 ?_)
        have F := three_rows y (show v ≠ u by omega) (show v ≠ t by omega) (show u ≠ t by omega) mv mu mt D3 (by omega) (by omega) (by omega)
        obtain ⟨Z1, hZ1⟩ : ∃ Z, Z = Y3.setRow v (capv y) := ⟨_, rfl⟩
        obtain ⟨Z2, hZ2⟩ : ∃ Z, Z = Z1.setRow u (capv y) := ⟨_, rfl⟩
        obtain ⟨Z3, hZ3⟩ : ∃ Z, Z = Z2.setRow t (capv y) := ⟨_, rfl⟩
        rw [← hZ1, ← hZ2, ← hZ3] at F
        refine walk_one 6 (by kernel_rfl) (do_skip (w' := Z1) 6 rfl (by kernel_rfl) (by rw [hZ1]; exact ex_store_row 25 (.tmp 6) (.tmp 17) (by kernel_rfl) v (capv y) (by kernel_rfl) (by kernel_rfl) 25 (capv Cap.zero) mv cap_size rfl (cap_one _)) F.1.2 ?_)
        refine walk_one 7 (by kernel_rfl) (do_skip (w' := Z2) 7 rfl (by kernel_rfl) (by rw [hZ2]; exact ex_store_row 25 (.tmp 7) (.tmp 18) (by kernel_rfl) u (capv y) (by kernel_rfl) (by kernel_rfl) 25 (capv Cap.zero) F.1.1 cap_size rfl (cap_one _)) F.2.1.2 ?_)
        refine walk_one 8 (by kernel_rfl) (do_last (w' := Z3) 8 rfl (by kernel_rfl) (by rw [hZ3]; exact ex_store_row 25 (.tmp 8) (.tmp 19) (by kernel_rfl) t (capv y) (by kernel_rfl) (by kernel_rfl) 25 (capv Cap.zero) F.2.1.1 cap_size rfl (cap_one _)) (by kernel_rfl) ?_)
        refine walk_end_at ⟨#[.agg (capv x), .int .i64 other, .pointer (some ⟨w.heap.size, 0, none⟩), undef, .bool false, .pointer (some ⟨g, 0, none⟩), .pointer (some ⟨v, 0, none⟩), .pointer (some ⟨u, 0, none⟩), .pointer (some ⟨t, 0, none⟩), undef, undef, undef, undef, undef, undef, .agg (capv x), .agg (capv y), .agg (capv y), .agg (capv y), .agg (capv y), undef, undef, undef, undef, undef, undef, undef, undef, undef, undef, undef, undef, undef, undef, undef, undef, undef, undef, undef, undef, undef, undef, undef, undef, undef, undef, undef, undef, undef, undef, undef, undef, undef, undef, undef], []⟩ (by kernel_rfl) (by kernel_rfl) ?_
        have HE := Lib.hid (show Laid3 W2 Z3 y v u t from ⟨⟨by omega, by omega, by omega⟩, ⟨by omega, by omega, by omega⟩, F.2.2.1, F.2.2.2.1, F.2.2.2.2.1, F.2.2.2.2.2⟩)
        clear F hZ1 hZ2 hZ3 D1 D2 D3 mu mv mt al0 al1 al2 BW
        go_wp2_with fail
        go_meet
        exact ⟨v, u, t, rfl, rfl, rfl, HE.out⟩
      · refine (do_lone (v := .pointer (some ⟨v, 0, none⟩)) (w' := Y2) 5 rfl (by kernel_rfl) (al1 _ (by kernel_rfl) _) D2 ?_)
        refine walk_one 3 (by kernel_rfl) (do_lone (v := .pointer (some ⟨t, 0, none⟩)) (w' := Y3) 3 rfl (by kernel_rfl) (al2 _ (by kernel_rfl) _) D3 ?_)
        have F := three_rows y (show t ≠ u by omega) (show t ≠ v by omega) (show u ≠ v by omega) mt mu mv D3 (by omega) (by omega) (by omega)
        obtain ⟨Z1, hZ1⟩ : ∃ Z, Z = Y3.setRow t (capv y) := ⟨_, rfl⟩
        obtain ⟨Z2, hZ2⟩ : ∃ Z, Z = Z1.setRow u (capv y) := ⟨_, rfl⟩
        obtain ⟨Z3, hZ3⟩ : ∃ Z, Z = Z2.setRow v (capv y) := ⟨_, rfl⟩
        rw [← hZ1, ← hZ2, ← hZ3] at F
        refine walk_one 6 (by kernel_rfl) (do_skip (w' := Z1) 6 rfl (by kernel_rfl) (by rw [hZ1]; exact ex_store_row 25 (.tmp 6) (.tmp 17) (by kernel_rfl) t (capv y) (by kernel_rfl) (by kernel_rfl) 25 (capv Cap.zero) mt cap_size rfl (cap_one _)) F.1.2 ?_)
        refine walk_one 7 (by kernel_rfl) (do_skip (w' := Z2) 7 rfl (by kernel_rfl) (by rw [hZ2]; exact ex_store_row 25 (.tmp 7) (.tmp 18) (by kernel_rfl) u (capv y) (by kernel_rfl) (by kernel_rfl) 25 (capv Cap.zero) F.1.1 cap_size rfl (cap_one _)) F.2.1.2 ?_)
        refine walk_one 8 (by kernel_rfl) (do_last (w' := Z3) 8 rfl (by kernel_rfl) (by rw [hZ3]; exact ex_store_row 25 (.tmp 8) (.tmp 19) (by kernel_rfl) v (capv y) (by kernel_rfl) (by kernel_rfl) 25 (capv Cap.zero) F.2.1.1 cap_size rfl (cap_one _)) (by kernel_rfl) ?_)
        refine walk_end_at ⟨#[.agg (capv x), .int .i64 other, .pointer (some ⟨w.heap.size, 0, none⟩), undef, .bool false, .pointer (some ⟨g, 0, none⟩), .pointer (some ⟨t, 0, none⟩), .pointer (some ⟨u, 0, none⟩), .pointer (some ⟨v, 0, none⟩), undef, undef, undef, undef, undef, undef, .agg (capv x), .agg (capv y), .agg (capv y), .agg (capv y), .agg (capv y), undef, undef, undef, undef, undef, undef, undef, undef, undef, undef, undef, undef, undef, undef, undef, undef, undef, undef, undef, undef, undef, undef, undef, undef, undef, undef, undef, undef, undef, undef, undef, undef, undef, undef, undef], []⟩ (by kernel_rfl) (by kernel_rfl) ?_
        have HE := Lib.hid (show Laid3 W2 Z3 y t u v from ⟨⟨by omega, by omega, by omega⟩, ⟨by omega, by omega, by omega⟩, F.2.2.1, F.2.2.2.1, F.2.2.2.2.1, F.2.2.2.2.2⟩)
        clear F hZ1 hZ2 hZ3 D1 D2 D3 mu mv mt al0 al1 al2 BW
        go_wp2_with fail
        go_meet
        exact ⟨t, u, v, rfl, rfl, rfl, HE.out⟩
    · refine (do_lone (v := .pointer (some ⟨u, 0, none⟩)) (w' := Y1) 5 rfl (by kernel_rfl) (al0 _ (by kernel_rfl) _) D1 ?_)
      refine walk_two 3 4 (by kernel_rfl) ?_ ?_
      · refine (do_lone (v := .pointer (some ⟨v, 0, none⟩)) (w' := Y2) 3 rfl (by kernel_rfl) (al1 _ (by kernel_rfl) _) D2 ?_)
        refine walk_one 4 (by kernel_rfl) (do_lone (v := .pointer (some ⟨t, 0, none⟩)) (w' := Y3) 4 rfl (by kernel_rfl) (al2 _ (by kernel_rfl) _) D3 ?_)
        have F := three_rows y (show v ≠ t by omega) (show v ≠ u by omega) (show t ≠ u by omega) mv mt mu D3 (by omega) (by omega) (by omega)
        obtain ⟨Z1, hZ1⟩ : ∃ Z, Z = Y3.setRow v (capv y) := ⟨_, rfl⟩
        obtain ⟨Z2, hZ2⟩ : ∃ Z, Z = Z1.setRow t (capv y) := ⟨_, rfl⟩
        obtain ⟨Z3, hZ3⟩ : ∃ Z, Z = Z2.setRow u (capv y) := ⟨_, rfl⟩
        rw [← hZ1, ← hZ2, ← hZ3] at F
        refine walk_one 6 (by kernel_rfl) (do_skip (w' := Z1) 6 rfl (by kernel_rfl) (by rw [hZ1]; exact ex_store_row 25 (.tmp 6) (.tmp 17) (by kernel_rfl) v (capv y) (by kernel_rfl) (by kernel_rfl) 25 (capv Cap.zero) mv cap_size rfl (cap_one _)) F.1.2 ?_)
        refine walk_one 7 (by kernel_rfl) (do_skip (w' := Z2) 7 rfl (by kernel_rfl) (by rw [hZ2]; exact ex_store_row 25 (.tmp 7) (.tmp 18) (by kernel_rfl) t (capv y) (by kernel_rfl) (by kernel_rfl) 25 (capv Cap.zero) F.1.1 cap_size rfl (cap_one _)) F.2.1.2 ?_)
        refine walk_one 8 (by kernel_rfl) (do_last (w' := Z3) 8 rfl (by kernel_rfl) (by rw [hZ3]; exact ex_store_row 25 (.tmp 8) (.tmp 19) (by kernel_rfl) u (capv y) (by kernel_rfl) (by kernel_rfl) 25 (capv Cap.zero) F.2.1.1 cap_size rfl (cap_one _)) (by kernel_rfl) ?_)
        refine walk_end_at ⟨#[.agg (capv x), .int .i64 other, .pointer (some ⟨w.heap.size, 0, none⟩), undef, .bool false, .pointer (some ⟨g, 0, none⟩), .pointer (some ⟨v, 0, none⟩), .pointer (some ⟨t, 0, none⟩), .pointer (some ⟨u, 0, none⟩), undef, undef, undef, undef, undef, undef, .agg (capv x), .agg (capv y), .agg (capv y), .agg (capv y), .agg (capv y), undef, undef, undef, undef, undef, undef, undef, undef, undef, undef, undef, undef, undef, undef, undef, undef, undef, undef, undef, undef, undef, undef, undef, undef, undef, undef, undef, undef, undef, undef, undef, undef, undef, undef, undef], []⟩ (by kernel_rfl) (by kernel_rfl) ?_
        have HE := Lib.hid (show Laid3 W2 Z3 y v t u from ⟨⟨by omega, by omega, by omega⟩, ⟨by omega, by omega, by omega⟩, F.2.2.1, F.2.2.2.1, F.2.2.2.2.1, F.2.2.2.2.2⟩)
        clear F hZ1 hZ2 hZ3 D1 D2 D3 mu mv mt al0 al1 al2 BW
        go_wp2_with fail
        go_meet
        exact ⟨v, t, u, rfl, rfl, rfl, HE.out⟩
      · refine (do_lone (v := .pointer (some ⟨v, 0, none⟩)) (w' := Y2) 4 rfl (by kernel_rfl) (al1 _ (by kernel_rfl) _) D2 ?_)
        refine walk_one 3 (by kernel_rfl) (do_lone (v := .pointer (some ⟨t, 0, none⟩)) (w' := Y3) 3 rfl (by kernel_rfl) (al2 _ (by kernel_rfl) _) D3 ?_)
        have F := three_rows y (show t ≠ v by omega) (show t ≠ u by omega) (show v ≠ u by omega) mt mv mu D3 (by omega) (by omega) (by omega)
        obtain ⟨Z1, hZ1⟩ : ∃ Z, Z = Y3.setRow t (capv y) := ⟨_, rfl⟩
        obtain ⟨Z2, hZ2⟩ : ∃ Z, Z = Z1.setRow v (capv y) := ⟨_, rfl⟩
        obtain ⟨Z3, hZ3⟩ : ∃ Z, Z = Z2.setRow u (capv y) := ⟨_, rfl⟩
        rw [← hZ1, ← hZ2, ← hZ3] at F
        refine walk_one 6 (by kernel_rfl) (do_skip (w' := Z1) 6 rfl (by kernel_rfl) (by rw [hZ1]; exact ex_store_row 25 (.tmp 6) (.tmp 17) (by kernel_rfl) t (capv y) (by kernel_rfl) (by kernel_rfl) 25 (capv Cap.zero) mt cap_size rfl (cap_one _)) F.1.2 ?_)
        refine walk_one 7 (by kernel_rfl) (do_skip (w' := Z2) 7 rfl (by kernel_rfl) (by rw [hZ2]; exact ex_store_row 25 (.tmp 7) (.tmp 18) (by kernel_rfl) v (capv y) (by kernel_rfl) (by kernel_rfl) 25 (capv Cap.zero) F.1.1 cap_size rfl (cap_one _)) F.2.1.2 ?_)
        refine walk_one 8 (by kernel_rfl) (do_last (w' := Z3) 8 rfl (by kernel_rfl) (by rw [hZ3]; exact ex_store_row 25 (.tmp 8) (.tmp 19) (by kernel_rfl) u (capv y) (by kernel_rfl) (by kernel_rfl) 25 (capv Cap.zero) F.2.1.1 cap_size rfl (cap_one _)) (by kernel_rfl) ?_)
        refine walk_end_at ⟨#[.agg (capv x), .int .i64 other, .pointer (some ⟨w.heap.size, 0, none⟩), undef, .bool false, .pointer (some ⟨g, 0, none⟩), .pointer (some ⟨t, 0, none⟩), .pointer (some ⟨v, 0, none⟩), .pointer (some ⟨u, 0, none⟩), undef, undef, undef, undef, undef, undef, .agg (capv x), .agg (capv y), .agg (capv y), .agg (capv y), .agg (capv y), undef, undef, undef, undef, undef, undef, undef, undef, undef, undef, undef, undef, undef, undef, undef, undef, undef, undef, undef, undef, undef, undef, undef, undef, undef, undef, undef, undef, undef, undef, undef, undef, undef, undef, undef], []⟩ (by kernel_rfl) (by kernel_rfl) ?_
        have HE := Lib.hid (show Laid3 W2 Z3 y t v u from ⟨⟨by omega, by omega, by omega⟩, ⟨by omega, by omega, by omega⟩, F.2.2.1, F.2.2.2.1, F.2.2.2.2.1, F.2.2.2.2.2⟩)
        clear F hZ1 hZ2 hZ3 D1 D2 D3 mu mv mt al0 al1 al2 BW
        go_wp2_with fail
        go_meet
        exact ⟨t, v, u, rfl, rfl, rfl, HE.out⟩
  case rest =>
    obtain ⟨a, b, c, rfl, rfl, rfl, hL⟩ := hcut
    obtain ⟨V, hV⟩ : ∃ V, V = wc := ⟨_, rfl⟩
    rw [← hV] at hL ⊢
    clear hV
    obtain ⟨⟨nab, nac, nbc⟩, ⟨la, lb, lc⟩, ba, bb, bc, bV⟩ := hL
    have qx := HC2.out.lt
    have qg := HG2.out.lt
    obtain ⟨y2, hy2⟩ : ∃ z : Cap, z = { y with form := other } := ⟨_, rfl⟩
    obtain ⟨y3, hy3⟩ : ∃ z : Cap, z = { y with ver := other } := ⟨_, rfl⟩
    obtain ⟨y4, hy4⟩ : ∃ z : Cap, z = { y with len := other } := ⟨_, rfl⟩
    have HO2 := Lib.hid (show y2.Ok by rw [hy2]; exact ⟨HO.out, HYO.out.ver, HYO.out.len, HYO.out.own, HYO.out.peer, HYO.out.sum⟩)
    have HO3 := Lib.hid (show y3.Ok by rw [hy3]; exact ⟨HYO.out.form, HO.out, HYO.out.len, HYO.out.own, HYO.out.peer, HYO.out.sum⟩)
    have HO4 := Lib.hid (show y4.Ok by rw [hy4]; exact ⟨HYO.out.form, HYO.out.ver, HO.out, HYO.out.own, HYO.out.peer, HYO.out.sum⟩)
    obtain ⟨X1, hX1⟩ : ∃ X, X = V.setCell ⟨a, 0, none⟩ (.int .i64 other) := ⟨_, rfl⟩
    obtain ⟨X2, hX2⟩ : ∃ X, X = X1.setCell ⟨b, 1, none⟩ (.int .i64 other) := ⟨_, rfl⟩
    obtain ⟨X3, hX3⟩ : ∃ X, X = X2.setCell ⟨c, 6, none⟩ (.int .i64 other) := ⟨_, rfl⟩
    have a1 : Blk X1 a 25 (capv y2) := by rw [hX1, hy2]; exact Blk.set_ ba 0 _
    have b1 : Blk X1 b 25 (capv y) := by rw [hX1]; exact bb.setOther nab.symm _ _
    have c1 : Blk X1 c 25 (capv y) := by rw [hX1]; exact bc.setOther nac.symm _ _
    have a2 : Blk X2 a 25 (capv y2) := by rw [hX2]; exact a1.setOther nab _ _
    have b2 : Blk X2 b 25 (capv y3) := by rw [hX2, hy3]; exact Blk.set_ b1 1 _
    have c2 : Blk X2 c 25 (capv y) := by rw [hX2]; exact c1.setOther nbc.symm _ _
    have HA3 := Lib.hid (show Blk X3 a 25 (capv y2) by rw [hX3]; exact a2.setOther nac _ _)
    have HB3 := Lib.hid (show Blk X3 b 25 (capv y3) by rw [hX3]; exact b2.setOther nbc _ _)
    have HC3 := Lib.hid (show Blk X3 c 25 (capv y4) by rw [hX3, hy4]; exact Blk.set_ c2 6 _)
    have HX3 := Lib.hid (show Blk X3 w.heap.size 25 (capv x) by rw [hX3, hX2, hX1]; exact (((HC2.out.below bV qx).setOther (by omega) _ _).setOther (by omega) _ _).setOther (by omega) _ _)
    have HG3 := Lib.hid (show Blk X3 g 25 (capv y) by rw [hX3, hX2, hX1]; exact (((HG2.out.below bV qg).setOther (by omega) _ _).setOther (by omega) _ _).setOther (by omega) _ _)
    have hbw := HB2.out.size
    have HBW := Lib.hid (show Below w.heap.size w X3 by
      rw [hX3, hX2, hX1]
      exact (((HB2.out.trans (bV.mono hbw)).setCell (p := ⟨a, 0, none⟩) (show w.heap.size ≤ a by omega) _).setCell (p := ⟨b, 1, none⟩) (show w.heap.size ≤ b by omega) _).setCell (p := ⟨c, 6, none⟩) (show w.heap.size ≤ c by omega) _)
    have ka := ba.cell 0
    have fa := ba.frozen 0
    have kb := b1.cell 1
    have fb := b1.frozen 1
    have kc := c2.cell 6
    have fc := c2.frozen 6
    simp only [List.getElem?_toArray, List.getElem?_cons_zero, List.getElem?_cons_succ] at ka kb kc
    have ew1 := hX1.symm
    have ew2 := hX2.symm
    have ew3 := hX3.symm
    clear nab nac nbc la lb lc ba bb bc bV qx qg hy2 hy3 hy4 hX1 hX2 hX3 a1 b1 c1 a2 b2 c2 hbw HC2 HG2 HB2 HGW
    go_wp2_with (first
      | (refine wpList_load_row rfl 25 _ rfl w.heap.size rfl 25 (capv x) (0, 0) _ ?_ Try.underlying25 rfl cap_size ?_; exact HX3.out)
      | (refine wpList_load_row rfl 25 _ rfl g rfl 25 (capv y) (0, 0) _ ?_ Try.underlying25 rfl cap_size ?_; exact HG3.out)
      | (refine wpList_load_row rfl 25 _ rfl a rfl 25 (capv y2) (0, 0) _ ?_ Try.underlying25 rfl cap_size ?_; exact HA3.out)
      | (refine wpList_load_row rfl 25 _ rfl b rfl 25 (capv y3) (0, 0) _ ?_ Try.underlying25 rfl cap_size ?_; exact HB3.out)
      | (refine wpList_load_row rfl 25 _ rfl c rfl 25 (capv y4) (0, 0) _ ?_ Try.underlying25 rfl cap_size ?_; exact HC3.out))
    obtain ⟨A, hA⟩ : ∃ A : Array Value, A = #[.int .i64 x.form, .int .i64 x.ver, .bool x.sums, .bool x.alone, .int .u64 (x.own : Int), .int .u64 (x.peer : Int), .int .i64 x.len, .int .u16 (x.sum : Int), .int .i64 y.form, .int .i64 y.ver, .bool y.sums, .bool y.alone, .int .u64 (y.own : Int), .int .u64 (y.peer : Int), .int .i64 y.len, .int .u16 (y.sum : Int), .int .i64 y2.form, .int .i64 y2.ver, .bool y2.sums, .bool y2.alone, .int .u64 (y2.own : Int), .int .u64 (y2.peer : Int), .int .i64 y2.len, .int .u16 (y2.sum : Int), .int .i64 y3.form, .int .i64 y3.ver, .bool y3.sums, .bool y3.alone, .int .u64 (y3.own : Int), .int .u64 (y3.peer : Int), .int .i64 y3.len, .int .u16 (y3.sum : Int), .int .i64 y4.form, .int .i64 y4.ver, .bool y4.sums, .bool y4.alone, .int .u64 (y4.own : Int), .int .u64 (y4.peer : Int), .int .i64 y4.len, .int .u16 (y4.sum : Int)] := ⟨_, rfl⟩
    rw [← hA]
    have HIX := Lib.hid (show ∀ (j : Nat), j < 5 → ∀ W : World, ∃ z : Cap, (Instr.index 27 (.agg A) (.int .i64 (j : Int))).run Try.prog W = .ok (.agg (capv z)) W ∧ z.Ok from fun j hj W => by
      rw [hA]
      have : j = 0 ∨ j = 1 ∨ j = 2 ∨ j = 3 ∨ j = 4 := by omega
      rcases this with rfl | rfl | rfl | rfl | rfl
      · exact ⟨x, by kernel_rfl, HX.out⟩
      · exact ⟨y, by kernel_rfl, HYO.out⟩
      · exact ⟨y2, by kernel_rfl, HO2.out⟩
      · exact ⟨y3, by kernel_rfl, HO3.out⟩
      · exact ⟨y4, by kernel_rfl, HO4.out⟩)
    clear hA ka fa kb fb kc fc ew1 ew2 ew3 HA3 HB3 HC3 HX3 HG3
    go_loopw [32] (fun i wr => ∃ j : Nat, j ≤ 5 ∧ i = .int .i64 (j : Int) ∧ Below w.heap.size w wr) (fun i _ => (5 - intOf i).toNat)
    case atStart => exact ⟨0, by omega, rfl, HBW.out⟩
    case round =>
      obtain ⟨j, hj, rfl, hB⟩ := hrel
      have HB6 := Lib.hid hB
      clear hB HBW
      by_cases hlt : j < 5
      · obtain ⟨z, hi, hzo⟩ := HIX.out j hlt wr
        have i5 : (j : Int) < 5 := by omega
        have HLT := Lib.hid hlt
        have HZO := Lib.hid hzo
        clear hlt hj hzo
        have HZ6 := Lib.hid (Blk.new wr 25 (capv z))
        have HB7 := Lib.hid (show Below w.heap.size w (wr.alloc (.cells (capv z) 25)) from HB6.out.alloc HB6.out.size _)
        have HLW := Lib.hid (show wr.heap.size < (wr.alloc (.cells (capv z) 25)).heap.size by simp)
        go_wp2_with (refine wpList_load_row rfl 25 _ rfl wr.heap.size rfl 25 (capv z) (0, 0) _ ?_ Try.underlying25 rfl cap_size ?_; exact HZ6.out)
        refine (Encode_any z HZO.out _).mono ?_
        rintro e W7 ⟨rfl, b⟩
        have HZ7 := Lib.hid (HZ6.out.below b HLW.out)
        have HB8 := Lib.hid (HB7.out.trans (b.mono HB7.out.size))
        clear b HZ6 HB7 HLW HB6
        obtain ⟨s1, hs1⟩ : ∃ q, q = z.enc.1 := ⟨_, rfl⟩
        obtain ⟨c1, hc1⟩ : ∃ q, q = z.enc.2 := ⟨_, rfl⟩
        have HV := Lib.hid (show encV z = .tuple #[.string s1, .int .i64 c1] by rw [encV, hs1, hc1])
        clear hs1 hc1
        rw [HV.out]
        go_wp2_with (refine wpList_load_row rfl 25 _ rfl wr.heap.size rfl 25 (capv z) (0, 0) _ ?_ Try.underlying25 rfl cap_size ?_; exact HZ7.out)
        refine (EncodeR_any z HZO.out W7).mono ?_
        rintro e W8 ⟨rfl, b⟩
        have HB9 := Lib.hid (HB8.out.trans (b.mono HB8.out.size))
        clear b HZ7 HB8
        rw [HV.out]
        go_wp2_with fail
        go_roundw
        case rel => exact ⟨j + 1, by have := HLT.out; omega, by go_num, HB9.out⟩
        case measure => simp [intOf]; omega
      · obtain rfl : j = 5 := by omega
        clear hlt hj
        go_wp2_with fail
        refine (works_t wr).mono ?_
        rintro e W6 ⟨rfl, b⟩
        have HB7 := Lib.hid (HB6.out.trans (b.mono HB6.out.size))
        go_wp2_with fail
        go_ret; exact ⟨rfl, HB7.out⟩

theorem own : ownKnob Try.prog.godebug = none := by kernel_rfl
theorem laidOut : laidOutB Try.prog = true := by kernel_rfl

set_option maxRecDepth 100000 in
theorem lifted (os : Os) (started : os.Started) (H : Type) (enc : TypeId × Value → H) :
    ReturnsInHanded {} Try.checked os 3 .any (Rows.capableLaysSpec.pre6 enc Try.prog Try.f3 Rows.capableLaysRow.domain false) (Rows.capableLaysSpec.post enc Try.prog Try.f3 false true false false) := by
  refine returnsInHanded_of_change (C := Try.checked) own started (by kernel_rfl) Try.func3
    (ChangeSpec.witness6 (enc := enc) (C := Try.checked) false ⟨#[], #[.agg #[.int .i64 0, .int .i64 0, .bool false, .bool false, .int .u64 0, .int .u64 0, .int .i64 0, .int .u16 0], .int .i64 0], []⟩ 8 (by kernel_rfl) (by kernel_rfl) (by kernel_rfl) (by kernel_rfl)) ?_
  intro W base args ds gs before hval0 hW hcnd _
  have hval : ∀ (j : Nat) t v, Try.f3.params[j]? = some t → args[j]? = some v → Value.okWide Try.prog W .any base t v := hval0
  have hW' := hW
  obtain ⟨p, q, hA0, hV, rfl, hfz, hnd⟩ := hW
  have hA : DataW.TrodAll enc Try.prog W 0 (fun _ => true) true Try.f3.params.toList args.toList ds p := hA0
  rw [Try.params3] at hA hval
  obtain ⟨v0, vs0, d0, ds0, p0, q0, hargs, rfl, rfl, h0, r0⟩ := trodAll_cons hA
  obtain ⟨v1, vs1, d1, ds1, p1, q1, rfl, rfl, rfl, h1, r1⟩ := trodAll_cons r0
  obtain ⟨rfl, rfl, rfl⟩ := trodAll_nil r1
  obtain rfl : args = #[v0, v1] := by cases args; simp_all
  obtain ⟨rfl, rfl⟩ := trodVars_none hV
  have k0 := h0
  have lt0 : ∀ x ∈ p0, x.block < W.heap.size := by obtain ⟨m, hm⟩ := k0; exact DataW.trod_lt m _ _ _ hm
  obtain ⟨a0, rfl, o0⟩ := open_cap (hval 0 25 v0 rfl rfl) h0
  obtain ⟨a1, rfl, rfl, rfl, w1⟩ := open_int Try.underlying3 (hval 1 3 v1 rfl rfl) h1
  clear hA0 hval0
  simp only [List.append_nil] at hW'
  refine (walk a0 o0 a1 (bounds_i64 w1) W).mono fun e W' ⟨he, bel⟩ => ?_
  subst he
  exact ⟨_, rfl, _, _, _, [], _, [], hW', trodAll_mk1 (shut_bool Try.underlying4 _), (trodAll_cons_mk (Below.trod laidOut (by kernel_rfl) (of_decide_eq_true (by kernel_rfl)) k0 bel lt0) (trodAll_cons_mk (shut_int Try.underlying3 w1) trodAll_mk0)), rfl, bel.frame _, fun h => by cases h⟩

theorem over : Rows.capableLaysRow.holds Try.pinned (OpenSpec.ofChange Rows.capableLaysSpec) :=
  OpenClaim.holds_of_wide 3 Try.f3 rfl rfl rfl rfl rfl rfl rfl ⟨rfl, rfl, rfl, rfl, rfl⟩ rfl rfl rfl rfl rfl (by kernel_rfl) Try.func3 (by kernel_rfl)
    (of_decide_eq_true (by kernel_rfl)) (by unfold Func.isWrapper; first | (rw [if_pos (by decide +kernel)]; kernel_rfl) | (rw [if_neg (by decide +kernel)]; exact ⟨rfl, rfl⟩))
    (fun os started H enc _ => lifted os started H enc)

theorem proved : Rows.CapableLaysSaid := over
#print axioms proved
end Go.Proofs.Ytpedbmnifjhaiaa.capableLays
