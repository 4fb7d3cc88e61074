/-
  What the small functions of package area answer, each by its walk: sizeOf, valid, measure, Size; and the document's own 'may an item be'.
-/
import Derived.Test.YtlmbccgldigihaaAreaWords
import Derived.Deep.QuietTactic
import Derived.BigQuiet
import Derived.IntWalk
namespace Go.Proofs.Ytlmbccgldigihaa
open Go.ChangeShapes Go.WideShapes Go.ChangeAt Go.RowKit
set_option linter.unusedVariables false

theorem sizeOf_any (x : It) (w : World) (hs : x.2.size ≤ 9223372036854775800) :
    Calls Try.prog 20 #[.agg #[.int .i64 x.1, .string x.2]] w fun e w' => e = .returned (.int .i64 (2 + (x.2.size : Int))) ∧ w.alloc (.cells #[.int .i64 x.1, .string x.2] 24) = w' := by
  go_enter Try.func20, Try.ntmps20
  go_wp2
  go_ret; exact ⟨rfl, rfl⟩

theorem valid_any (x : It) (w : World) (hs : x.2.size ≤ 9223372036854775800) :
    Calls Try.prog 23 #[.agg #[.int .i64 x.1, .string x.2]] w fun e w' => e = .returned (.bool (may x)) ∧ Below w.heap.size w w' := by
  by_cases h1 : 2 ≤ x.1
  · by_cases h2 : x.1 ≤ 255
    · go_enter Try.func23, Try.ntmps23
      go_wp2_with (go_at_call 20; refine (sizeOf_any x _ hs).mono ?_; rintro e w' ⟨rfl, rfl⟩)
      go_ret; exact ⟨ret_bool (by rw [Bool.eq_iff_iff]; simp [may]; omega), below_more (below_more (Below.refl _ _) _) _⟩
    · have d2 : decide (x.1 ≤ 255) = false := by simpa using h2
      go_enter Try.func23, Try.ntmps23
      go_wp2
      go_ret; exact ⟨ret_bool (by rw [Bool.eq_iff_iff]; simp [may]; omega), below_more (Below.refl _ _) _⟩
  · have d1 : decide (2 ≤ x.1) = false := by simpa using h1
    go_enter Try.func23, Try.ntmps23
    go_wp2
    go_ret; exact ⟨ret_bool (by rw [Bool.eq_iff_iff]; simp [may]; omega), below_more (Below.refl _ _) _⟩

theorem May_ref (x : It) (w : World) (hs : x.2.size ≤ 9223372036854775807) :
    Calls Try.prog 21 #[.agg #[.int .i64 x.1, .string x.2]] w fun e w' => e = .returned (.bool (may x)) ∧ Below w.heap.size w w' := by
  by_cases h1 : 2 ≤ x.1
  · by_cases h2 : x.1 ≤ 255
    · go_enter Try.func21, Try.ntmps21
      go_wp2
      go_ret; exact ⟨ret_bool (by rw [Bool.eq_iff_iff]; simp [may]; omega), below_more (Below.refl _ _) _⟩
    · have d2 : decide (x.1 ≤ 255) = false := by simpa using h2
      go_enter Try.func21, Try.ntmps21
      go_wp2
      go_ret; exact ⟨ret_bool (by rw [Bool.eq_iff_iff]; simp [may]; omega), below_more (Below.refl _ _) _⟩
  · have d1 : decide (2 ≤ x.1) = false := by simpa using h1
    go_enter Try.func21, Try.ntmps21
    go_wp2
    go_ret; exact ⟨ret_bool (by rw [Bool.eq_iff_iff]; simp [may]; omega), below_more (Below.refl _ _) _⟩
theorem valid_as (x : It) (b : Bool) (hb : may x = b) (w : World) (hs : x.2.size ≤ 9223372036854775800) :
    Calls Try.prog 23 #[.agg #[.int .i64 x.1, .string x.2]] w fun e w' => e = .returned (.bool b) ∧ Below w.heap.size w w' := hb ▸ valid_any x w hs
theorem May_as (x : It) (b : Bool) (hb : may x = b) (w : World) (hs : x.2.size ≤ 9223372036854775807) :
    Calls Try.prog 21 #[.agg #[.int .i64 x.1, .string x.2]] w fun e w' => e = .returned (.bool b) ∧ Below w.heap.size w w' := hb ▸ May_ref x w hs

theorem info_of {B : Nat} (l : List It) (j : Nat) (x : It) (h : l[j]? = some x) (hs : ∀ y ∈ l, y.2.size ≤ B) : x.2.size ≤ B := hs x (List.mem_of_getElem? h)
theorem all_take_succ (l : List It) (j : Nat) (x : It) (h : l[j]? = some x) : (l.take (j + 1)).all may = ((l.take j).all may && may x) := by
  rw [take_snoc_of l j x h]; simp
theorem wide_may : ∀ l : List It, l.all may = true → wide l ≤ l.length * 255
  | [], _ => Nat.le_refl _
  | x :: r, h => by
    simp at h
    have h1 := (may_iff x).1 h.1
    have h2 := wide_may r (by simpa using h.2)
    simp [wide]; omega
theorem sized_bad (l : List It) (j : Nat) (x : It) (h : l[j]? = some x) (hm : may x = false) : sized l = (0, 2) := by
  have : l.all may = false := by
    rw [List.all_eq_false]; exact ⟨x, List.mem_of_getElem? h, by simp [hm]⟩
  unfold sized; rw [this]; rfl
theorem sized_big (l : List It) (h : l.all may = true) (hw : 40 < wide l) : sized l = (0, 6) := by
  unfold sized; rw [if_pos h, if_neg (by omega)]

set_option maxHeartbeats 1000000 in
theorem measure_any (v : Value) (l : List It) (r : Int × Int) (w : World) (hr : Row w v l) (hs : ∀ y ∈ l, y.2.size ≤ 140737488355328) (hl : l.length ≤ 1099511627776) (h : sized l = r) :
    Calls Try.prog 19 #[v] w fun e w' => e = .returned (.tuple #[.int .i64 r.1, .int .i64 r.2]) ∧ Below w.heap.size w w' := by
  obtain ⟨p, cap, hv, hlc, hcap, hc⟩ := id hr
  subst hv
  have HR := Lib.hid hr
  have HC := Lib.hid hc
  have HH := Lib.hid h
  have HS := Lib.hid hs
  clear hr hc h hs
  go_enter Try.func19, Try.ntmps19
  go_wp2
  go_loopw [4, 9] (fun n i wr => ∃ j : Nat, j ≤ l.length ∧ i = .int .i64 (j : Int) ∧ n = .int .i64 (wide (l.take j) : Int) ∧ (l.take j).all may = true ∧ Below w.heap.size w wr) (fun _ i _ => l.length - (intOf i).toNat)
  case atStart => exact ⟨0, Nat.zero_le _, rfl, rfl, rfl, Below.refl _ _⟩
  case round =>
    obtain ⟨j, hj, rfl, rfl, hall, hB⟩ := hrel
    have hwb := wide_may _ hall
    have hwl : (l.take j).length ≤ l.length := by rw [List.length_take]; omega
    by_cases hlt : j < l.length
    · obtain ⟨x, hx⟩ : ∃ x, l[j]? = some x := ⟨_, List.getElem?_eq_getElem hlt⟩
      obtain ⟨ad, hp, hg, c0, c1⟩ := HC.out j x hx
      subst hp
      replace c0 := (World.cell?_of_block (hB.block _ (by rw [add_block]; exact hg))).trans c0
      replace c1 := (World.cell?_of_block (w := w) (w' := wr) (a := ⟨(ad.add (j * 2)).block, (ad.add (j * 2)).off + 1, none⟩) (hB.block _ (by show (ad.add (j * 2)).block < _; rw [add_block]; exact hg))).trans c1
      have hxs := info_of l j x hx HS.out
      obtain ⟨n, hn⟩ : ∃ n, n = wide (l.take j) := ⟨_, rfl⟩
      have hws := wide_take_succ l j x hx
      have has := all_take_succ l j x hx
      rw [← hn] at hwb hws ⊢
      have HX := Lib.hid hx
      have HW := Lib.hid hws
      have HA := Lib.hid has
      have HB := Lib.hid hB
      have HL := Lib.hid hall
      clear hx hws has hB hn hall
      cases hm : may x with
      | false =>
        have HM := Lib.hid hm
        clear hm
        go_wp2_with (go_at_call 23; refine (valid_as x false HM.out _ (by omega)).mono ?_; rintro e w1 ⟨rfl, B1⟩)
        go_ret2
        have e := sized_bad l j x HX.out HM.out
        rw [HH.out] at e
        refine ⟨by rw [e]; rfl, below_then (below_more HB.out _) B1⟩
      | true =>
        have HM := Lib.hid hm
        have hmx := (may_iff x).1 hm
        clear hm
        go_wp2_with fail
        refine (valid_as x true HM.out _ (by omega)).mono ?_
        rintro e w1 ⟨rfl, B1⟩
        have d0 : w1.cell? ⟨wr.heap.size, 0, none⟩ = some (.int .i64 x.1) := (bcell B1 _ _ (by simp)).trans (Blk.cell (Blk.new wr _ _) 0)
        have d1 : w1.cell? ⟨wr.heap.size, 1, none⟩ = some (.string x.2) := (bcell B1 _ _ (by simp)).trans (Blk.cell (Blk.new wr _ _) 1)
        have B2 := Lib.hid (below_then (below_more HB.out _) B1)
        clear B1
        go_wp2_with (go_at_call 20; refine (sizeOf_any x _ (by omega)).mono ?_; rintro e w2 ⟨rfl, rfl⟩)
        go_roundw
        case rel => exact ⟨j + 1, by omega, by go_num, by rw [HW.out]; go_num, by rw [HA.out, HL.out, HM.out]; rfl, below_more B2.out _⟩
        case measure => simp [intOf]; omega
    · obtain rfl : j = l.length := by omega
      rw [List.take_length] at hall hwb ⊢
      have HB := Lib.hid hB
      have HL := Lib.hid hall
      obtain ⟨n, hn⟩ : ∃ n, n = wide l := ⟨_, rfl⟩
      rw [← hn] at hwb ⊢
      have HN := Lib.hid hn
      clear hB hall hn
      by_cases h40 : 40 < n
      · go_wp2
        go_ret2
        have e := sized_big l HL.out (by rw [← HN.out]; exact h40)
        rw [HH.out] at e
        exact ⟨by rw [e]; rfl, HB.out⟩
      · go_wp2
        go_ret2
        have e := sized_ok l HL.out (by rw [← HN.out]; omega)
        rw [HH.out, ← HN.out] at e
        have en : ((n : Int) + 4 - 1) / 4 * 4 = (pad n : Int) := by unfold pad; omega
        refine ⟨by rw [e]; show Ending.returned (.tuple #[.int .i64 (((n : Int) + 4 - 1) / 4 * 4), .int .i64 0]) = _; rw [en], HB.out⟩

theorem Size_any (v : Value) (l : List It) (r : Int × Int) (w : World) (hr : Row w v l) (hs : ∀ y ∈ l, y.2.size ≤ 140737488355328) (hl : l.length ≤ 1099511627776) (h : sized l = r) :
    Calls Try.prog 11 #[v] w fun e w' => e = .returned (.int .i64 r.1) ∧ Below w.heap.size w w' := by
  have HR := Lib.hid hr
  have HH := Lib.hid h
  have HS := Lib.hid hs
  obtain ⟨p, cap, hv, hlc, hcap, hc⟩ := hr
  subst hv
  clear hc h hs
  go_enter Try.func11, Try.ntmps11
  go_wp2_with (go_at_call 19; refine (measure_any _ l r _ HR.out HS.out hl HH.out).mono ?_; rintro e w1 ⟨rfl, B1⟩)
  go_ret; exact ⟨rfl, B1⟩
end Go.Proofs.Ytlmbccgldigihaa
