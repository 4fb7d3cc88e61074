/-
  Whether a text is walked through as given items, and whether it is refused (walked, refused), each by its walk; the chapter's examples (works), of the program: they all hold.
-/
import Derived.Test.YtlmbccgldigihaaAreaRefs
namespace Go.Proofs.Ytlmbccgldigihaa
open Go.ChangeShapes Go.WideShapes Go.ChangeAt Go.RowKit
set_option linter.unusedVariables false

theorem walked_t (s : ByteArray) (v : Value) (l : List It) (w : World) (hs : s.size ≤ 140737488355328) (hr : Row w v l) (hl : l.length ≤ 1099511627776) (h : read s = (l, 0)) :
    Calls Try.prog 17 #[.string s, v] w fun e w' => e = .returned (.bool true) ∧ Below w.heap.size w w' := by
  have HR := Lib.hid hr
  have HH := Lib.hid h
  obtain ⟨p, cap, hv, hlc, hcap, hc⟩ := hr
  subst hv
  clear hc h
  go_enter Try.func17, Try.ntmps17
  go_wp2_with fail
  refine (Walk_any s (l, 0) _ hs HH.out).mono ?_
  rintro e w1 ⟨v1, rfl, row1, B1⟩
  have H1 := Lib.hid row1
  have HB1 := Lib.hid B1
  clear row1 B1
  go_wp2_with (go_at_call 15; refine (Same_any v1 _ l l true (by simp) _ H1.out (HR.out.below HB1.out) hl hl).mono ?_; rintro e w2 ⟨rfl, B2⟩)
  go_ret; exact ⟨rfl, below_then HB1.out B2⟩

theorem refused_t (s : ByteArray) (c : Int) (w : World) (hs : s.size ≤ 140737488355328) (h : read s = ([], c)) :
    Calls Try.prog 18 #[.string s, .int .i64 c] w fun e w' => e = .returned (.bool true) ∧ Below w.heap.size w w' := by
  have HH := Lib.hid h
  clear h
  go_enter Try.func18, Try.ntmps18
  go_wp2_with fail
  refine (Walk_any s ([], c) _ hs HH.out).mono ?_
  rintro e w1 ⟨v1, rfl, row1, B1⟩
  obtain ⟨p, cap, hv, hlc, hcap, hc⟩ := row1
  subst hv
  have HB1 := Lib.hid B1
  clear B1 hc
  go_wp2
  go_ret; exact ⟨rfl, HB1.out⟩

theorem Row.built2 (w : World) (o : Obj) (l : List It) {n cap : Nat} {cs : Array Value} {t : TypeId} (hc : cs = (cellsOf l).toArray) (hn : n = l.length := by rfl) (hcap : n ≤ cap := by decide) (hmax : cap ≤ 9223372036854775807 := by decide) : Row ((w.alloc o).alloc (.cells cs t)) (.slice (some ⟨w.heap.size + 1, 0, none⟩) n cap) l := by
  have h := Row.built (w.alloc o) l (n := n) (cap := cap) (t := t) hc hn hcap hmax
  rwa [World.size_alloc] at h

set_option maxHeartbeats 4000000 in
set_option maxRecDepth 100000 in
theorem works_any (w : World) : Calls Try.prog 12 #[] w fun e w' => e = .returned (.bool true) ∧ Below w.heap.size w w' := by
  go_enter Try.func12, Try.ntmps12
  go_wp2_with fail
  refine (Lay_any _ [(30, ⟨#[97, 98]⟩)] (⟨#[30, 4, 97, 98]⟩, 0) _ (Row.built _ _ rfl) (by decide) (by decide) (by decide)).mono ?_
  rintro e w1 ⟨rfl, b1⟩
  have B1 := Lib.hid (below_then (below_more (Below.refl w.heap.size w) _) b1)
  clear b1
  go_wp2_with fail
  have R2 := Lib.hid (Row.built w1 [(3, ⟨#[120]⟩), (2, ⟨#[]⟩)] (n := 2) (cap := 2) (cs := #[.int .i64 3, .string ⟨#[120]⟩, .int .i64 2, .string ⟨#[]⟩]) (t := 24) rfl)
  refine (Lay_any _ [(3, ⟨#[120]⟩), (2, ⟨#[]⟩)] (⟨#[3, 3, 120, 2, 2, 0, 0, 0]⟩, 0) _ R2.out (by decide) (by decide) (by decide)).mono ?_
  rintro e w2 ⟨rfl, b2⟩
  have R3 := Lib.hid (R2.out.below b2)
  have B2 := Lib.hid (below_then (below_more B1.out _) b2)
  clear b2
  go_wp2_with fail
  refine (Lay_any _ [(1, ⟨#[]⟩)] (⟨#[]⟩, 2) _ (Row.built _ _ rfl) (by decide) (by decide) (by decide)).mono ?_
  rintro e w3 ⟨rfl, b3⟩
  have R4 := Lib.hid ((R3.out.more _).below b3)
  have B3 := Lib.hid (below_then (below_more B2.out _) b3)
  clear b3
  go_wp2_with fail
  refine (Lay_any _ [(9, ⟨#[49, 50, 51, 52, 53, 54, 55, 56, 57, 48, 49, 50, 51, 52, 53, 54, 55, 56, 57, 48]⟩), (9, ⟨#[49, 50, 51, 52, 53, 54, 55, 56, 57, 48, 49, 50, 51, 52, 53, 54, 55, 56, 57, 48]⟩)] (⟨#[]⟩, 6) _ (Row.built2 _ _ _ rfl) (by decide) (by decide) (by decide)).mono ?_
  rintro e w4 ⟨rfl, b4⟩
  have R5 := Lib.hid (((R4.out.more _).more _).below b4)
  have B4 := Lib.hid (below_then (below_more (below_more B3.out _) _) b4)
  clear b4
  go_wp2_with fail
  refine (Size_any _ [(3, ⟨#[120]⟩), (2, ⟨#[]⟩)] (8, 0) _ R5.out (by decide) (by decide) (by decide)).mono ?_
  rintro e w5 ⟨rfl, b5⟩
  have B5 := Lib.hid (below_then B4.out b5)
  clear b5
  go_wp2_with fail
  refine (walked_t _ _ [(5, ⟨#[]⟩)] _ (by decide) (Row.built _ _ rfl) (by decide) (by decide)).mono ?_
  rintro e w6 ⟨rfl, b6⟩
  have B6 := Lib.hid (below_then (below_more B5.out _) b6)
  clear b6
  go_wp2_with fail
  refine (refused_t _ 5 _ (by decide) (by decide)).mono ?_
  rintro e w7 ⟨rfl, b7⟩
  have B7 := Lib.hid (below_then B6.out b7)
  clear b7
  go_wp2_with fail
  refine (walked_t _ _ [(5, ⟨#[0]⟩)] _ (by decide) (Row.built _ _ rfl) (by decide) (by decide)).mono ?_
  rintro e w8 ⟨rfl, b8⟩
  have B8 := Lib.hid (below_then (below_more B7.out _) b8)
  clear b8
  go_wp2_with fail
  refine (refused_t _ 5 _ (by decide) (by decide)).mono ?_
  rintro e w9 ⟨rfl, b9⟩
  have B9 := Lib.hid (below_then B8.out b9)
  clear b9
  go_wp2_with fail
  refine (refused_t _ 4 _ (by decide) (by decide)).mono ?_
  rintro e w10 ⟨rfl, b10⟩
  have B10 := Lib.hid (below_then B9.out b10)
  clear b10
  go_wp2
  go_ret; exact ⟨rfl, B10.out⟩
end Go.Proofs.Ytlmbccgldigihaa
