/-
  An option as an argument, opened. No statement of the document is here.
-/
import Derived.Test.YtpedbmnifjhaiaaCapWalks
import Derived.WalkKit
import Derived.ProofKit
import Derived.OpenShut
import Derived.ShutString
import Derived.ChangeOld
import Derived.Below
import Derived.SizedLaws
namespace Go.Proofs.Ytpedbmnifjhaiaa
open Go.ChangeShapes Go.WideShapes Go.ChangeAt Go.RowKit
set_option linter.unusedVariables false

set_option maxRecDepth 100000 in
theorem open_cap {H : Type} {enc : TypeId × Value → H} {w : World} {base : Nat} {spare : Nat → Bool} {held : Bool} {r : Reach} {b0 : Nat} {v : Value} {d : DataW H} {p : List MemPlace}
    (hv : Value.okWide Try.prog w r b0 25 v) (h : DataW.Trod enc Try.prog w base spare held 25 v d p) :
    ∃ x : Cap, v = .agg (capv x) ∧ x.Ok := by
  obtain ⟨cs, rfl, hcs⟩ := okWide_struct Try.underlying25 hv
  obtain ⟨fuel, hf⟩ := h
  have hn : cs.size = 8 := hcs.trans (by kernel_rfl : Try.prog.cellsOf 25 = 8)
  obtain ⟨xs, n, _, hx, hl, hlen, hfld⟩ := DataW.trod_struct Try.underlying25 hf
  have hd : d = .agg (xs.map (·.1)) := congrArg Prod.fst hx
  obtain ⟨l⟩ := cs
  have hln : l.length = 8 := hn
  have hxn : xs.length = 8 := hlen
  subst hd
  clear hx hl hlen hn hcs hv
  match l, hln, xs, hxn, hfld with
  | [c0, c1, c2, c3, c4, c5, c6, c7], _, [y0, y1, y2, y3, y4, y5, y6, y7], _, hfld =>
    have t0 : DataW.trod enc Try.prog w base spare held n 3 [c0] = some y0 := by
      have q : DataW.trod enc Try.prog w base spare held n 3 (([c0, c1, c2, c3, c4, c5, c6, c7].drop 0).take (Try.prog.cellsOf 3)) = some y0 := hfld 0 _ rfl
      rw [show Try.prog.cellsOf 3 = 1 by kernel_rfl] at q
      exact q
    have t1 : DataW.trod enc Try.prog w base spare held n 3 [c1] = some y1 := by
      have q : DataW.trod enc Try.prog w base spare held n 3 (([c0, c1, c2, c3, c4, c5, c6, c7].drop 1).take (Try.prog.cellsOf 3)) = some y1 := hfld 1 _ rfl
      rw [show Try.prog.cellsOf 3 = 1 by kernel_rfl] at q
      exact q
    have t2 : DataW.trod enc Try.prog w base spare held n 4 [c2] = some y2 := by
      have q : DataW.trod enc Try.prog w base spare held n 4 (([c0, c1, c2, c3, c4, c5, c6, c7].drop 2).take (Try.prog.cellsOf 4)) = some y2 := hfld 2 _ rfl
      rw [show Try.prog.cellsOf 4 = 1 by kernel_rfl] at q
      exact q
    have t3 : DataW.trod enc Try.prog w base spare held n 4 [c3] = some y3 := by
      have q : DataW.trod enc Try.prog w base spare held n 4 (([c0, c1, c2, c3, c4, c5, c6, c7].drop 3).take (Try.prog.cellsOf 4)) = some y3 := hfld 3 _ rfl
      rw [show Try.prog.cellsOf 4 = 1 by kernel_rfl] at q
      exact q
    have t4 : DataW.trod enc Try.prog w base spare held n 22 [c4] = some y4 := by
      have q : DataW.trod enc Try.prog w base spare held n 22 (([c0, c1, c2, c3, c4, c5, c6, c7].drop 4).take (Try.prog.cellsOf 22)) = some y4 := hfld 4 _ rfl
      rw [show Try.prog.cellsOf 22 = 1 by kernel_rfl] at q
      exact q
    have t5 : DataW.trod enc Try.prog w base spare held n 22 [c5] = some y5 := by
      have q : DataW.trod enc Try.prog w base spare held n 22 (([c0, c1, c2, c3, c4, c5, c6, c7].drop 5).take (Try.prog.cellsOf 22)) = some y5 := hfld 5 _ rfl
      rw [show Try.prog.cellsOf 22 = 1 by kernel_rfl] at q
      exact q
    have t6 : DataW.trod enc Try.prog w base spare held n 3 [c6] = some y6 := by
      have q : DataW.trod enc Try.prog w base spare held n 3 (([c0, c1, c2, c3, c4, c5, c6, c7].drop 6).take (Try.prog.cellsOf 3)) = some y6 := hfld 6 _ rfl
      rw [show Try.prog.cellsOf 3 = 1 by kernel_rfl] at q
      exact q
    have t7 : DataW.trod enc Try.prog w base spare held n 23 [c7] = some y7 := by
      have q : DataW.trod enc Try.prog w base spare held n 23 (([c0, c1, c2, c3, c4, c5, c6, c7].drop 7).take (Try.prog.cellsOf 23)) = some y7 := hfld 7 _ rfl
      rw [show Try.prog.cellsOf 23 = 1 by kernel_rfl] at q
      exact q
    obtain ⟨z0, e0, d0, w0⟩ := DataW.trod_int Try.underlying3 t0
    obtain rfl : c0 = _ := by simpa using e0
    obtain ⟨l0, u0⟩ := bounds_i64 w0
    obtain ⟨z1, e1, d1, w1⟩ := DataW.trod_int Try.underlying3 t1
    obtain rfl : c1 = _ := by simpa using e1
    obtain ⟨l1, u1⟩ := bounds_i64 w1
    obtain ⟨z2, e2, d2⟩ := DataW.trod_bool Try.underlying4 t2
    obtain rfl : c2 = _ := by simpa using e2
    obtain ⟨z3, e3, d3⟩ := DataW.trod_bool Try.underlying4 t3
    obtain rfl : c3 = _ := by simpa using e3
    obtain ⟨z4, e4, d4, w4⟩ := DataW.trod_int Try.underlying22 t4
    obtain rfl : c4 = _ := by simpa using e4
    obtain ⟨l4, u4⟩ := bounds_u64 w4
    obtain ⟨m4, rfl⟩ := Int.eq_ofNat_of_zero_le l4
    obtain ⟨z5, e5, d5, w5⟩ := DataW.trod_int Try.underlying22 t5
    obtain rfl : c5 = _ := by simpa using e5
    obtain ⟨l5, u5⟩ := bounds_u64 w5
    obtain ⟨m5, rfl⟩ := Int.eq_ofNat_of_zero_le l5
    obtain ⟨z6, e6, d6, w6⟩ := DataW.trod_int Try.underlying3 t6
    obtain rfl : c6 = _ := by simpa using e6
    obtain ⟨l6, u6⟩ := bounds_i64 w6
    obtain ⟨z7, e7, d7, w7⟩ := DataW.trod_int Try.underlying23 t7
    obtain rfl : c7 = _ := by simpa using e7
    obtain ⟨l7, u7⟩ := bounds_u16 w7
    obtain ⟨m7, rfl⟩ := Int.eq_ofNat_of_zero_le l7
    exact ⟨⟨z0, z1, z2, z3, m4, m5, z6, m7⟩, rfl, ⟨⟨l0, u0⟩, ⟨l1, u1⟩, ⟨l6, u6⟩, show m4 ≤ 18446744073709551615 by omega, show m5 ≤ 18446744073709551615 by omega, show m7 ≤ 65535 by omega⟩⟩
end Go.Proofs.Ytpedbmnifjhaiaa
