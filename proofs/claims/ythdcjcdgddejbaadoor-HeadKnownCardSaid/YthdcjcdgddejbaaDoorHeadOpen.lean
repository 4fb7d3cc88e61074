/-
  Arguments of layer 5, opened: a segment, a shape; the table of flags out of the condition of a row. No statement of the document is here.
-/
import Derived.Test.YthdcjcdgddejbaaDoorHeadFill
import Derived.Test.YthdcjcdgddejbaaDoorHeadThm
import Derived.Test.YthdcjcdgddejbaaDoorTie
import Derived.Test.YthdcjcdgddejbaaDoorCards
import Derived.SevenTiedAt
import Derived.LaidMore
import Derived.Lib.LaidTab
import Derived.ProofKit
import Derived.OpenShut
import Derived.ShutString
import Derived.ChangeOld
import Derived.Below
import Derived.SizedLaws
import Derived.Stop.Joined
namespace Go.Proofs.YthdcjcdgddejbaaDoor
open Go.ChangeShapes Go.WideShapes Go.ChangeAt Go.RowKit
set_option linter.unusedVariables false

theorem shape_size : (Tryd.prog.info? 27).map (·.size) = some 3 := by kernel_rfl
theorem own : ownKnob Tryd.prog.godebug = none := by kernel_rfl
theorem laidOut : laidOutB Tryd.prog = true := by kernel_rfl
abbrev laid1 : List (String × DataW Unit) := [("plait/head.flagWords", Rows.laid_plait_head_flagWords)]
theorem door_met (os : Os) (args : Array Value) : laidMetH Tryd.prog laid1 ((World.doorLaid Tryd.prog 400 os).forCall (fun _ _ => 0) ⟨#[], args, []⟩).memory :=
  laidMetH_of_parts3 (fuel := 8) (laidMet_of_run' 8 (by kernel_rfl) (by kernel_rfl)) (by kernel_rfl) (by kernel_rfl)
theorem table_of {W : World} (h : laidMetH Tryd.prog laid1 W) : Tbl W := by
  rw [MakeChecks.laidMetH_plain _ _ _ (by kernel_rfl)] at h
  have hT := Lib.tabIs_of_head (P := Tryd.prog) (W := W) (name := "plait/head.flagWords") (k := .u32) (zs := [1, 2, 4, 16]) (rest := []) (g := 0) (t := 77) (e := 23) (n := 4) (by kernel_rfl) (by kernel_rfl) Tryd.underlying77 Tryd.underlying23 (by kernel_rfl) (by kernel_rfl) h
  have hg : Tryd.prog.globalNamed "plait/head.flagWords" = some 0 := by kernel_rfl
  have c0 := hT.cell hg 0 (by decide)
  exact ⟨Nat.lt_of_le_of_lt (Nat.zero_le _) (World.block_lt_of_cell? W _ c0), c0, hT.cell hg 1 (by decide), hT.cell hg 2 (by decide), hT.cell hg 3 (by decide)⟩
theorem agg_string {H : Type} {P : Program} {ts : List TypeId} {ds : List (DataW H)} (h : (DataW.weightsEach P ts ds).all (· ≤ reachBytes) = true) {j k : Nat} {t tk : TypeId} {fs : Array Field} {parts : List (DataW H)} {bytes : List UInt8}
    (ht : ts[j]? = some t) (hd : ds[j]? = some (.agg parts)) (hu : P.underlying t = some (.struct fs)) (hk : (fs.toList.map (·.type))[k]? = some tk) (hp : parts[k]? = some (.lit (.string bytes))) : bytes.length ≤ reachBytes := by
  have := List.all_eq_true.1 h _ (DataW.weights_mem_each ht hd bytes.length (by
    have hm := DataW.weights_mem_each (P := P) hk hp bytes.length (by simp [DataW.weights])
    simp only [DataW.weights, hu]
    exact hm))
  simpa using this

/-- A segment, as an argument. -/
theorem open_seg {H : Type} {enc : TypeId × Value → H} {w : World} {base : Nat} {spare : Nat → Bool} {held : Bool} {r : Reach} {b0 : Nat} {v : Value} {d : DataW H} {p : List MemPlace}
    (hv : Value.okWide Tryd.prog w r b0 25 v) (h : DataW.Trod enc Tryd.prog w base spare held 25 v d p) :
    ∃ x : Sg, v = .agg (segv x) ∧ x.src ≤ 65535 ∧ x.dst ≤ 65535 ∧ x.seq ≤ 4294967295 ∧ x.ack ≤ 4294967295 ∧ x.win ≤ 65535 ∧ ∃ parts, d = .agg parts ∧ parts[10]? = some (.lit (.string x.area.data.toList)) ∧ parts[11]? = some (.lit (.string x.data.data.toList)) := by
  obtain ⟨cs, rfl, hcs⟩ := okWide_struct Tryd.underlying25 hv
  obtain ⟨fuel, hf⟩ := h
  have h12 : cs.size = 12 := by rw [hcs]; kernel_rfl
  obtain ⟨xs, n, _, hx, hl, hlen, hfld⟩ := DataW.trod_struct Tryd.underlying25 hf
  have hd : d = .agg (xs.map (·.1)) := congrArg Prod.fst hx
  obtain ⟨l⟩ := cs
  have hl12 : l.length = 12 := h12
  have hx12 : xs.length = 12 := hlen
  subst hd
  clear hx hl hlen h12 hcs hv
  match l, hl12, xs, hx12, hfld with
  | [c0, c1, c2, c3, c4, c5, c6, c7, c8, c9, c10, c11], _, [y0, y1, y2, y3, y4, y5, y6, y7, y8, y9, y10, y11], _, hfld =>
    have t0 : DataW.trod enc Tryd.prog w base spare held n 3 [c0] = some y0 := by
      have q : DataW.trod enc Tryd.prog w base spare held n 3 (([c0, c1, c2, c3, c4, c5, c6, c7, c8, c9, c10, c11].drop 0).take (Tryd.prog.cellsOf 3)) = some y0 := hfld 0 _ rfl
      rw [show Tryd.prog.cellsOf 3 = 1 by kernel_rfl] at q
      exact q
    have t1 : DataW.trod enc Tryd.prog w base spare held n 22 [c1] = some y1 := by
      have q : DataW.trod enc Tryd.prog w base spare held n 22 (([c0, c1, c2, c3, c4, c5, c6, c7, c8, c9, c10, c11].drop 1).take (Tryd.prog.cellsOf 22)) = some y1 := hfld 1 _ rfl
      rw [show Tryd.prog.cellsOf 22 = 1 by kernel_rfl] at q
      exact q
    have t2 : DataW.trod enc Tryd.prog w base spare held n 22 [c2] = some y2 := by
      have q : DataW.trod enc Tryd.prog w base spare held n 22 (([c0, c1, c2, c3, c4, c5, c6, c7, c8, c9, c10, c11].drop 2).take (Tryd.prog.cellsOf 22)) = some y2 := hfld 2 _ rfl
      rw [show Tryd.prog.cellsOf 22 = 1 by kernel_rfl] at q
      exact q
    have t3 : DataW.trod enc Tryd.prog w base spare held n 23 [c3] = some y3 := by
      have q : DataW.trod enc Tryd.prog w base spare held n 23 (([c0, c1, c2, c3, c4, c5, c6, c7, c8, c9, c10, c11].drop 3).take (Tryd.prog.cellsOf 23)) = some y3 := hfld 3 _ rfl
      rw [show Tryd.prog.cellsOf 23 = 1 by kernel_rfl] at q
      exact q
    have t4 : DataW.trod enc Tryd.prog w base spare held n 23 [c4] = some y4 := by
      have q : DataW.trod enc Tryd.prog w base spare held n 23 (([c0, c1, c2, c3, c4, c5, c6, c7, c8, c9, c10, c11].drop 4).take (Tryd.prog.cellsOf 23)) = some y4 := hfld 4 _ rfl
      rw [show Tryd.prog.cellsOf 23 = 1 by kernel_rfl] at q
      exact q
    have t5 : DataW.trod enc Tryd.prog w base spare held n 4 [c5] = some y5 := by
      have q : DataW.trod enc Tryd.prog w base spare held n 4 (([c0, c1, c2, c3, c4, c5, c6, c7, c8, c9, c10, c11].drop 5).take (Tryd.prog.cellsOf 4)) = some y5 := hfld 5 _ rfl
      rw [show Tryd.prog.cellsOf 4 = 1 by kernel_rfl] at q
      exact q
    have t6 : DataW.trod enc Tryd.prog w base spare held n 4 [c6] = some y6 := by
      have q : DataW.trod enc Tryd.prog w base spare held n 4 (([c0, c1, c2, c3, c4, c5, c6, c7, c8, c9, c10, c11].drop 6).take (Tryd.prog.cellsOf 4)) = some y6 := hfld 6 _ rfl
      rw [show Tryd.prog.cellsOf 4 = 1 by kernel_rfl] at q
      exact q
    have t7 : DataW.trod enc Tryd.prog w base spare held n 4 [c7] = some y7 := by
      have q : DataW.trod enc Tryd.prog w base spare held n 4 (([c0, c1, c2, c3, c4, c5, c6, c7, c8, c9, c10, c11].drop 7).take (Tryd.prog.cellsOf 4)) = some y7 := hfld 7 _ rfl
      rw [show Tryd.prog.cellsOf 4 = 1 by kernel_rfl] at q
      exact q
    have t8 : DataW.trod enc Tryd.prog w base spare held n 4 [c8] = some y8 := by
      have q : DataW.trod enc Tryd.prog w base spare held n 4 (([c0, c1, c2, c3, c4, c5, c6, c7, c8, c9, c10, c11].drop 8).take (Tryd.prog.cellsOf 4)) = some y8 := hfld 8 _ rfl
      rw [show Tryd.prog.cellsOf 4 = 1 by kernel_rfl] at q
      exact q
    have t9 : DataW.trod enc Tryd.prog w base spare held n 22 [c9] = some y9 := by
      have q : DataW.trod enc Tryd.prog w base spare held n 22 (([c0, c1, c2, c3, c4, c5, c6, c7, c8, c9, c10, c11].drop 9).take (Tryd.prog.cellsOf 22)) = some y9 := hfld 9 _ rfl
      rw [show Tryd.prog.cellsOf 22 = 1 by kernel_rfl] at q
      exact q
    have t10 : DataW.trod enc Tryd.prog w base spare held n 9 [c10] = some y10 := by
      have q : DataW.trod enc Tryd.prog w base spare held n 9 (([c0, c1, c2, c3, c4, c5, c6, c7, c8, c9, c10, c11].drop 10).take (Tryd.prog.cellsOf 9)) = some y10 := hfld 10 _ rfl
      rw [show Tryd.prog.cellsOf 9 = 1 by kernel_rfl] at q
      exact q
    have t11 : DataW.trod enc Tryd.prog w base spare held n 9 [c11] = some y11 := by
      have q : DataW.trod enc Tryd.prog w base spare held n 9 (([c0, c1, c2, c3, c4, c5, c6, c7, c8, c9, c10, c11].drop 11).take (Tryd.prog.cellsOf 9)) = some y11 := hfld 11 _ rfl
      rw [show Tryd.prog.cellsOf 9 = 1 by kernel_rfl] at q
      exact q
    obtain ⟨z0, e0, d0, w0⟩ := DataW.trod_int Tryd.underlying3 t0
    obtain rfl : c0 = _ := by simpa using e0
    obtain ⟨z1, e1, d1, w1⟩ := DataW.trod_int Tryd.underlying22 t1
    obtain rfl : c1 = _ := by simpa using e1
    obtain ⟨z2, e2, d2, w2⟩ := DataW.trod_int Tryd.underlying22 t2
    obtain rfl : c2 = _ := by simpa using e2
    obtain ⟨z3, e3, d3, w3⟩ := DataW.trod_int Tryd.underlying23 t3
    obtain rfl : c3 = _ := by simpa using e3
    obtain ⟨z4, e4, d4, w4⟩ := DataW.trod_int Tryd.underlying23 t4
    obtain rfl : c4 = _ := by simpa using e4
    obtain ⟨z5, e5, d5⟩ := DataW.trod_bool Tryd.underlying4 t5
    obtain rfl : c5 = _ := by simpa using e5
    obtain ⟨z6, e6, d6⟩ := DataW.trod_bool Tryd.underlying4 t6
    obtain rfl : c6 = _ := by simpa using e6
    obtain ⟨z7, e7, d7⟩ := DataW.trod_bool Tryd.underlying4 t7
    obtain rfl : c7 = _ := by simpa using e7
    obtain ⟨z8, e8, d8⟩ := DataW.trod_bool Tryd.underlying4 t8
    obtain rfl : c8 = _ := by simpa using e8
    obtain ⟨z9, e9, d9, w9⟩ := DataW.trod_int Tryd.underlying22 t9
    obtain rfl : c9 = _ := by simpa using e9
    obtain ⟨z10, e10, d10, w10⟩ := DataW.trod_string Tryd.underlying9 t10
    obtain rfl : c10 = _ := by simpa using e10
    obtain ⟨z11, e11, d11, w11⟩ := DataW.trod_string Tryd.underlying9 t11
    obtain rfl : c11 = _ := by simpa using e11
    obtain ⟨l1, u1⟩ := bounds_u16 w1
    obtain ⟨m1, rfl⟩ := Int.eq_ofNat_of_zero_le l1
    obtain ⟨l2, u2⟩ := bounds_u16 w2
    obtain ⟨m2, rfl⟩ := Int.eq_ofNat_of_zero_le l2
    obtain ⟨l3, u3⟩ := bounds_u32 w3
    obtain ⟨m3, rfl⟩ := Int.eq_ofNat_of_zero_le l3
    obtain ⟨l4, u4⟩ := bounds_u32 w4
    obtain ⟨m4, rfl⟩ := Int.eq_ofNat_of_zero_le l4
    obtain ⟨l9, u9⟩ := bounds_u16 w9
    obtain ⟨m9, rfl⟩ := Int.eq_ofNat_of_zero_le l9
    exact ⟨⟨z0, m1, m2, m3, m4, z5, z6, z7, z8, m9, z10, z11⟩, rfl, show m1 ≤ 65535 by omega, show m2 ≤ 65535 by omega, show m3 ≤ 4294967295 by omega, show m4 ≤ 4294967295 by omega, show m9 ≤ 65535 by omega, _, rfl, by simp [d10], by simp [d11]⟩

/-- A shape, as an argument. -/
theorem open_shape {H : Type} {enc : TypeId × Value → H} {w : World} {base : Nat} {spare : Nat → Bool} {held : Bool} {r : Reach} {b0 : Nat} {v : Value} {d : DataW H} {p : List MemPlace}
    (hv : Value.okWide Tryd.prog w r b0 27 v) (h : DataW.Trod enc Tryd.prog w base spare held 27 v d p) :
    ∃ a b c : Int, v = .agg #[.int .u8 a, .int .u16 b, .int .u8 c] ∧ (0 ≤ a ∧ a ≤ 255) ∧ (0 ≤ b ∧ b ≤ 65535) ∧ (0 ≤ c ∧ c ≤ 255) := by
  obtain ⟨cs, rfl, hcs⟩ := okWide_struct Tryd.underlying27 hv
  obtain ⟨fuel, hf⟩ := h
  have h3 : cs.size = 3 := by rw [hcs]; kernel_rfl
  obtain ⟨xs, n, _, hx, hl, hlen, hfld⟩ := DataW.trod_struct Tryd.underlying27 hf
  obtain ⟨l⟩ := cs
  have hl3 : l.length = 3 := h3
  have hx3 : xs.length = 3 := hlen
  clear hx hl hlen h3 hcs hv
  match l, hl3, xs, hx3, hfld with
  | [c0, c1, c2], _, [y0, y1, y2], _, hfld =>
    have t0 : DataW.trod enc Tryd.prog w base spare held n 5 [c0] = some y0 := by
      have q : DataW.trod enc Tryd.prog w base spare held n 5 (([c0, c1, c2].drop 0).take (Tryd.prog.cellsOf 5)) = some y0 := hfld 0 _ rfl
      rw [show Tryd.prog.cellsOf 5 = 1 by kernel_rfl] at q
      exact q
    have t1 : DataW.trod enc Tryd.prog w base spare held n 22 [c1] = some y1 := by
      have q : DataW.trod enc Tryd.prog w base spare held n 22 (([c0, c1, c2].drop 1).take (Tryd.prog.cellsOf 22)) = some y1 := hfld 1 _ rfl
      rw [show Tryd.prog.cellsOf 22 = 1 by kernel_rfl] at q
      exact q
    have t2 : DataW.trod enc Tryd.prog w base spare held n 5 [c2] = some y2 := by
      have q : DataW.trod enc Tryd.prog w base spare held n 5 (([c0, c1, c2].drop 2).take (Tryd.prog.cellsOf 5)) = some y2 := hfld 2 _ rfl
      rw [show Tryd.prog.cellsOf 5 = 1 by kernel_rfl] at q
      exact q
    obtain ⟨z0, e0, d0, w0⟩ := DataW.trod_int Tryd.underlying5 t0
    obtain rfl : c0 = _ := by simpa using e0
    obtain ⟨z1, e1, d1, w1⟩ := DataW.trod_int Tryd.underlying22 t1
    obtain rfl : c1 = _ := by simpa using e1
    obtain ⟨z2, e2, d2, w2⟩ := DataW.trod_int Tryd.underlying5 t2
    obtain rfl : c2 = _ := by simpa using e2
    exact ⟨z0, z1, z2, rfl, bounds_u8 w0, bounds_u16 w1, bounds_u8 w2⟩
end Go.Proofs.YthdcjcdgddejbaaDoor
