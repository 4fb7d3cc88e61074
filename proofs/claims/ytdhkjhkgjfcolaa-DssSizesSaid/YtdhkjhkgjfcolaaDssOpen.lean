/-
  A signal as an argument, opened. No statement of the document is here.
-/
import Derived.Test.YtdhkjhkgjfcolaaDssWalks
import Derived.WalkKit
import Derived.ProofKit
import Derived.OpenShut
import Derived.ShutString
import Derived.ChangeOld
import Derived.Below
import Derived.SizedLaws
namespace Go.Proofs.Ytdhkjhkgjfcolaa
open Go.ChangeShapes Go.WideShapes Go.ChangeAt Go.RowKit
set_option linter.unusedVariables false

set_option maxRecDepth 100000 in
theorem open_dss {H : Type} {enc : TypeId × Value → H} {w : World} {base : Nat} {spare : Nat → Bool} {held : Bool} {r : Reach} {b0 : Nat} {v : Value} {d : DataW H} {p : List MemPlace}
    (hv : Value.okWide Try.prog w r b0 26 v) (h : DataW.Trod enc Try.prog w base spare held 26 v d p) :
    ∃ x : Ds, v = .agg (dsv x) ∧ x.Ok := by
  obtain ⟨cs, rfl, hcs⟩ := okWide_struct Try.underlying26 hv
  obtain ⟨fuel, hf⟩ := h
  have hn : cs.size = 11 := hcs.trans (by kernel_rfl : Try.prog.cellsOf 26 = 11)
  obtain ⟨xs, n, _, hx, hl, hlen, hfld⟩ := DataW.trod_struct Try.underlying26 hf
  have hd : d = .agg (xs.map (·.1)) := congrArg Prod.fst hx
  obtain ⟨l⟩ := cs
  have hln : l.length = 11 := hn
  have hxn : xs.length = 11 := hlen
  subst hd
  clear hx hl hlen hn hcs hv
  match l, hln, xs, hxn, hfld with
  | [c0, c1, c2, c3, c4, c5, c6, c7, c8, c9, c10], _, [y0, y1, y2, y3, y4, y5, y6, y7, y8, y9, y10], _, hfld =>
    have t0 : DataW.trod enc Try.prog w base spare held n 4 [c0] = some y0 := by
      have q : DataW.trod enc Try.prog w base spare held n 4 (([c0, c1, c2, c3, c4, c5, c6, c7, c8, c9, c10].drop 0).take (Try.prog.cellsOf 4)) = some y0 := hfld 0 _ rfl
      rw [show Try.prog.cellsOf 4 = 1 by kernel_rfl] at q
      exact q
    have t1 : DataW.trod enc Try.prog w base spare held n 4 [c1] = some y1 := by
      have q : DataW.trod enc Try.prog w base spare held n 4 (([c0, c1, c2, c3, c4, c5, c6, c7, c8, c9, c10].drop 1).take (Try.prog.cellsOf 4)) = some y1 := hfld 1 _ rfl
      rw [show Try.prog.cellsOf 4 = 1 by kernel_rfl] at q
      exact q
    have t2 : DataW.trod enc Try.prog w base spare held n 4 [c2] = some y2 := by
      have q : DataW.trod enc Try.prog w base spare held n 4 (([c0, c1, c2, c3, c4, c5, c6, c7, c8, c9, c10].drop 2).take (Try.prog.cellsOf 4)) = some y2 := hfld 2 _ rfl
      rw [show Try.prog.cellsOf 4 = 1 by kernel_rfl] at q
      exact q
    have t3 : DataW.trod enc Try.prog w base spare held n 22 [c3] = some y3 := by
      have q : DataW.trod enc Try.prog w base spare held n 22 (([c0, c1, c2, c3, c4, c5, c6, c7, c8, c9, c10].drop 3).take (Try.prog.cellsOf 22)) = some y3 := hfld 3 _ rfl
      rw [show Try.prog.cellsOf 22 = 1 by kernel_rfl] at q
      exact q
    have t4 : DataW.trod enc Try.prog w base spare held n 4 [c4] = some y4 := by
      have q : DataW.trod enc Try.prog w base spare held n 4 (([c0, c1, c2, c3, c4, c5, c6, c7, c8, c9, c10].drop 4).take (Try.prog.cellsOf 4)) = some y4 := hfld 4 _ rfl
      rw [show Try.prog.cellsOf 4 = 1 by kernel_rfl] at q
      exact q
    have t5 : DataW.trod enc Try.prog w base spare held n 4 [c5] = some y5 := by
      have q : DataW.trod enc Try.prog w base spare held n 4 (([c0, c1, c2, c3, c4, c5, c6, c7, c8, c9, c10].drop 5).take (Try.prog.cellsOf 4)) = some y5 := hfld 5 _ rfl
      rw [show Try.prog.cellsOf 4 = 1 by kernel_rfl] at q
      exact q
    have t6 : DataW.trod enc Try.prog w base spare held n 22 [c6] = some y6 := by
      have q : DataW.trod enc Try.prog w base spare held n 22 (([c0, c1, c2, c3, c4, c5, c6, c7, c8, c9, c10].drop 6).take (Try.prog.cellsOf 22)) = some y6 := hfld 6 _ rfl
      rw [show Try.prog.cellsOf 22 = 1 by kernel_rfl] at q
      exact q
    have t7 : DataW.trod enc Try.prog w base spare held n 23 [c7] = some y7 := by
      have q : DataW.trod enc Try.prog w base spare held n 23 (([c0, c1, c2, c3, c4, c5, c6, c7, c8, c9, c10].drop 7).take (Try.prog.cellsOf 23)) = some y7 := hfld 7 _ rfl
      rw [show Try.prog.cellsOf 23 = 1 by kernel_rfl] at q
      exact q
    have t8 : DataW.trod enc Try.prog w base spare held n 3 [c8] = some y8 := by
      have q : DataW.trod enc Try.prog w base spare held n 3 (([c0, c1, c2, c3, c4, c5, c6, c7, c8, c9, c10].drop 8).take (Try.prog.cellsOf 3)) = some y8 := hfld 8 _ rfl
      rw [show Try.prog.cellsOf 3 = 1 by kernel_rfl] at q
      exact q
    have t9 : DataW.trod enc Try.prog w base spare held n 4 [c9] = some y9 := by
      have q : DataW.trod enc Try.prog w base spare held n 4 (([c0, c1, c2, c3, c4, c5, c6, c7, c8, c9, c10].drop 9).take (Try.prog.cellsOf 4)) = some y9 := hfld 9 _ rfl
      rw [show Try.prog.cellsOf 4 = 1 by kernel_rfl] at q
      exact q
    have t10 : DataW.trod enc Try.prog w base spare held n 24 [c10] = some y10 := by
      have q : DataW.trod enc Try.prog w base spare held n 24 (([c0, c1, c2, c3, c4, c5, c6, c7, c8, c9, c10].drop 10).take (Try.prog.cellsOf 24)) = some y10 := hfld 10 _ rfl
      rw [show Try.prog.cellsOf 24 = 1 by kernel_rfl] at q
      exact q
    obtain ⟨z0, e0, d0⟩ := DataW.trod_bool Try.underlying4 t0
    obtain rfl : c0 = _ := by simpa using e0
    obtain ⟨z1, e1, d1⟩ := DataW.trod_bool Try.underlying4 t1
    obtain rfl : c1 = _ := by simpa using e1
    obtain ⟨z2, e2, d2⟩ := DataW.trod_bool Try.underlying4 t2
    obtain rfl : c2 = _ := by simpa using e2
    obtain ⟨z3, e3, d3, w3⟩ := DataW.trod_int Try.underlying22 t3
    obtain rfl : c3 = _ := by simpa using e3
    obtain ⟨l3, u3⟩ := bounds_u64 w3
    obtain ⟨m3, rfl⟩ := Int.eq_ofNat_of_zero_le l3
    obtain ⟨z4, e4, d4⟩ := DataW.trod_bool Try.underlying4 t4
    obtain rfl : c4 = _ := by simpa using e4
    obtain ⟨z5, e5, d5⟩ := DataW.trod_bool Try.underlying4 t5
    obtain rfl : c5 = _ := by simpa using e5
    obtain ⟨z6, e6, d6, w6⟩ := DataW.trod_int Try.underlying22 t6
    obtain rfl : c6 = _ := by simpa using e6
    obtain ⟨l6, u6⟩ := bounds_u64 w6
    obtain ⟨m6, rfl⟩ := Int.eq_ofNat_of_zero_le l6
    obtain ⟨z7, e7, d7, w7⟩ := DataW.trod_int Try.underlying23 t7
    obtain rfl : c7 = _ := by simpa using e7
    obtain ⟨l7, u7⟩ := bounds_u32 w7
    obtain ⟨m7, rfl⟩ := Int.eq_ofNat_of_zero_le l7
    obtain ⟨z8, e8, d8, w8⟩ := DataW.trod_int Try.underlying3 t8
    obtain rfl : c8 = _ := by simpa using e8
    obtain ⟨l8, u8⟩ := bounds_i64 w8
    obtain ⟨z9, e9, d9⟩ := DataW.trod_bool Try.underlying4 t9
    obtain rfl : c9 = _ := by simpa using e9
    obtain ⟨z10, e10, d10, w10⟩ := DataW.trod_int Try.underlying24 t10
    obtain rfl : c10 = _ := by simpa using e10
    obtain ⟨l10, u10⟩ := bounds_u16 w10
    obtain ⟨m10, rfl⟩ := Int.eq_ofNat_of_zero_le l10
    exact ⟨⟨z0, z1, z2, m3, z4, z5, m6, m7, z8, z9, m10⟩, rfl, ⟨show m3 ≤ 18446744073709551615 by omega, show m6 ≤ 18446744073709551615 by omega, show m7 ≤ 4294967295 by omega, ⟨l8, u8⟩, show m10 ≤ 65535 by omega⟩⟩
end Go.Proofs.Ytdhkjhkgjfcolaa
