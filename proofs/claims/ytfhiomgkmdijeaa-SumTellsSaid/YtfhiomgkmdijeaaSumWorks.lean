/-
  The chapter's examples (works), of the program: they all hold.
-/
import Derived.Test.YtfhiomgkmdijeaaSumOf
namespace Go.Proofs.Ytfhiomgkmdijeaa
open Go.ChangeShapes Go.WideShapes Go.ChangeAt Go.RowKit
set_option linter.unusedVariables false

theorem Row.built (w : World) (ss : List ByteArray) {n cap : Nat} {cs : Array Value} {t : TypeId} (hc : cs = (ss.map Value.string).toArray) (hn : n = ss.length := by rfl) : Row (w.alloc (.cells cs t)) (.slice (some ⟨w.heap.size, 0, none⟩) n cap) ss :=
  Row.of_blk n hn (by rw [← hc]; exact Blk.new w t cs) cap
theorem below_then {a b c : World} (h : Below a.heap.size a b) (k : Below b.heap.size b c) : Below a.heap.size a c := h.trans (k.mono h.size)

set_option maxHeartbeats 4000000 in
set_option maxRecDepth 100000 in
theorem works_any (w : World) : Calls Try.prog 14 #[] w fun e w' => e = .returned (.bool true) ∧ Below w.heap.size w w' := by
  go_enter Try.func14, Try.ntmps14
  go_wp2_with fail
  refine (Of_any _ [⟨#[1, 2, 3, 4]⟩] 1030 _ (Row.built _ _ rfl) (by decide) (by decide) (by decide)).mono ?_
  rintro e w1 ⟨rfl, b1⟩
  have B1 := Lib.hid (below_then ((Below.refl w.heap.size w).alloc (Below.refl w.heap.size w).size _) b1)
  clear b1
  go_wp2_with fail
  refine (Of_any _ [⟨#[1, 2, 3]⟩] 1026 _ (Row.built _ _ rfl) (by decide) (by decide) (by decide)).mono ?_
  rintro e w2 ⟨rfl, b2⟩
  have B2 := Lib.hid (below_then (B1.out.alloc B1.out.size _) b2)
  clear b2
  go_wp2_with fail
  refine (Of_any _ [⟨#[1]⟩, ⟨#[2, 3, 4]⟩] 1030 _ (Row.built _ _ rfl) (by decide) (by decide) (by decide)).mono ?_
  rintro e w3 ⟨rfl, b3⟩
  have B3 := Lib.hid (below_then (B2.out.alloc B2.out.size _) b3)
  clear b3
  go_wp2_with fail
  refine (Of_any _ [⟨#[255, 255, 0, 1]⟩] 1 _ (Row.built _ _ rfl) (by decide) (by decide) (by decide)).mono ?_
  rintro e w4 ⟨rfl, b4⟩
  have B4 := Lib.hid (below_then (B3.out.alloc B3.out.size _) b4)
  clear b4
  go_wp2_with fail
  refine (Of_any _ [] 0 _ (Row.nil _) (by decide) (by decide) (by decide)).mono ?_
  rintro e w5 ⟨rfl, b5⟩
  have B5 := Lib.hid (below_then (B4.out) b5)
  clear b5
  go_wp2_with fail
  refine (Of_any _ [⟨#[0, 0]⟩] 0 _ (Row.built _ _ rfl) (by decide) (by decide) (by decide)).mono ?_
  rintro e w6 ⟨rfl, b6⟩
  have B6 := Lib.hid (below_then (B5.out.alloc B5.out.size _) b6)
  clear b6
  go_wp2_with fail
  refine (Fold_any 65535 (by decide) (by decide) _).mono ?_
  rintro e w' ⟨rfl, rfl⟩
  go_wp2_with fail
  refine (Fold_any 65536 (by decide) (by decide) _).mono ?_
  rintro e w' ⟨rfl, rfl⟩
  go_wp2_with fail
  refine (Fold_any 18446744073709551615 (by decide) (by decide) _).mono ?_
  rintro e w' ⟨rfl, rfl⟩
  go_wp2_with fail
  refine (Same_any 0 65535 (by decide) (by decide) (by decide) (by decide) _).mono ?_
  rintro e w' ⟨rfl, rfl⟩
  go_wp2_with fail
  refine (Not_any 1026 (by decide) (by decide) _).mono ?_
  rintro e w' ⟨rfl, rfl⟩
  go_wp2_with fail
  refine (Turn_any 1030 258 773 (by decide) (by decide) (by decide) (by decide) (by decide) (by decide) _).mono ?_
  rintro e w' ⟨rfl, rfl⟩
  go_wp2_with fail
  refine (Whole_any _ [⟨#[255, 254, 0, 1]⟩] 65535 _ (Row.built _ _ rfl) (by decide) (by decide) (by decide)).mono ?_
  rintro e w7 ⟨rfl, b7⟩
  have B7 := Lib.hid (below_then (B6.out.alloc B6.out.size _) b7)
  clear b7
  go_wp2
  go_ret; exact ⟨rfl, B7.out⟩
end Go.Proofs.Ytfhiomgkmdijeaa
