/-
  The tables out of the condition of a row of layer 6. No statement of the document is here.
-/
import Derived.Test.YtblcadikfjdfoaaDoorShaWorks
import Derived.Test.YtblcadikfjdfoaaDoorTie
import Derived.Test.YtblcadikfjdfoaaDoorCards
import Derived.SevenTiedAt
import Derived.LaidMore
import Derived.Lib.LaidTab
import Derived.ProofKit
import Derived.OpenShut
import Derived.ShutString
import Derived.ChangeOld
import Derived.Below
import Derived.SizedLaws
import Derived.Stop.Joined
import Derived.Stop.LaidErr
namespace Go.Proofs.YtblcadikfjdfoaaDoor
open Go.ChangeShapes Go.WideShapes Go.ChangeAt Go.RowKit
set_option linter.unusedVariables false

theorem own : ownKnob Tryd.prog.godebug = none := by kernel_rfl
theorem laidOut : laidOutB Tryd.prog = true := by kernel_rfl
abbrev laid1 : List (String × DataW Unit) := [("plait/sha.initialWords", Rows.laid_plait_sha_initialWords), ("plait/sha.roundWords", Rows.laid_plait_sha_roundWords)]
theorem door_met (os : Os) (args : Array Value) : laidMetH Tryd.prog laid1 ((World.doorLaid Tryd.prog 400 os).forCall (fun _ _ => 0) ⟨#[], args, []⟩).memory :=
  laidMetH_of_parts3 (fuel := 8) (laidMet_of_run' 8 (by kernel_rfl) (by kernel_rfl)) (by kernel_rfl) (by kernel_rfl)
def iws : List Int := ws0.list.map fun n : Nat => (n : Int)
def rws : List Int := kws.map fun n : Nat => (n : Int)
theorem eight_u : Tryd.prog.underlying 49 = some (.array 8 48) := by kernel_rfl
theorem table_of {W : World} (h : laidMetH Tryd.prog laid1 W) : Tbl W := by
  rw [MakeChecks.laidMetH_plain _ _ _ (by kernel_rfl)] at h
  have hI := Lib.tabIs_of_head (P := Tryd.prog) (W := W) (name := "plait/sha.initialWords") (k := .u32) (zs := iws) (rest := [("plait/sha.roundWords", Rows.laid_plait_sha_roundWords)]) (g := 0) (t := 50) (e := 48) (n := 8) (by kernel_rfl) (by kernel_rfl) (by kernel_rfl) Tryd.underlying48 (by kernel_rfl) (by kernel_rfl) h
  have hR := Lib.tabIs_of_head (P := Tryd.prog) (W := W) (name := "plait/sha.roundWords") (k := .u32) (zs := rws) (rest := []) (g := 1) (t := 70) (e := 48) (n := 64) (by kernel_rfl) (by kernel_rfl) (by kernel_rfl) Tryd.underlying48 (by kernel_rfl) (by kernel_rfl) h.tail
  have gI : Tryd.prog.globalNamed "plait/sha.initialWords" = some 0 := by kernel_rfl
  have gR : Tryd.prog.globalNamed "plait/sha.roundWords" = some 1 := by kernel_rfl
  have cR : ∀ i, i < 64 → W.cell? ⟨1, i, none⟩ = some (.int .u32 ((kws.getD i 0 : Nat) : Int)) := fun i hi => by
    have := hR.cell gR i (by simpa [rws, kws] using hi)
    rw [this]; simp [rws, show i < kws.length by simpa [kws] using hi]
  have cI : ∀ i, i < 8 → W.cell? ⟨0, i, none⟩ = some (.int .u32 ((ws0.list.getD i 0 : Nat) : Int)) := fun i hi => by
    have := hI.cell gI i (by simpa [iws, Ws.list_length] using hi)
    rw [this]; simp [iws, show i < ws0.list.length by rw [Ws.list_length]; exact hi]
  exact ⟨World.block_lt_of_cell? W _ (cR 0 (by decide)), cR, cI⟩

/-- Two texts, as an argument. -/
theorem open_pair {H : Type} {enc : TypeId × Value → H} {w : World} {base : Nat} {spare : Nat → Bool} {held : Bool} {r : Reach} {b0 : Nat} {v : Value} {d : DataW H} {p : List MemPlace}
    (hv : Value.okWide Tryd.prog w r b0 38 v) (h : DataW.Trod enc Tryd.prog w base spare held 38 v d p) : ∃ s0 s1 : ByteArray, v = .agg #[.string s0, .string s1] := by
  simp only [Value.okWide, Tryd.underlying38] at hv
  obtain ⟨cs, rfl, hsz', _⟩ := hv
  obtain ⟨l⟩ := cs
  have hl2 : l.length = 2 := hsz'.trans (by kernel_rfl : Tryd.prog.cellsOf 38 = 2)
  obtain ⟨fuel, hf⟩ := h
  obtain ⟨xs, m, _, _, _, hx2, hi⟩ := DataW.trod_array Tryd.underlying38 hf
  match l, hl2, xs, hx2, hi with
  | [c0, c1], _, [y0, y1], _, hi =>
    have t0 : DataW.trod enc Tryd.prog w base spare held m 9 [c0] = some y0 := by
      have q : DataW.trod enc Tryd.prog w base spare held m 9 (([c0, c1].drop (0 * Tryd.prog.cellsOf 9)).take (Tryd.prog.cellsOf 9)) = some y0 := hi 0 (by decide)
      rw [show Tryd.prog.cellsOf 9 = 1 by kernel_rfl] at q
      exact q
    have t1 : DataW.trod enc Tryd.prog w base spare held m 9 [c1] = some y1 := by
      have q : DataW.trod enc Tryd.prog w base spare held m 9 (([c0, c1].drop (1 * Tryd.prog.cellsOf 9)).take (Tryd.prog.cellsOf 9)) = some y1 := hi 1 (by decide)
      rw [show Tryd.prog.cellsOf 9 = 1 by kernel_rfl] at q
      exact q
    obtain ⟨z0, e0, _, _⟩ := DataW.trod_string Tryd.underlying9 t0
    obtain ⟨z1, e1, _, _⟩ := DataW.trod_string Tryd.underlying9 t1
    obtain rfl : c0 = _ := by simpa using e0
    obtain rfl : c1 = _ := by simpa using e1
    exact ⟨z0, z1, rfl⟩
end Go.Proofs.YtblcadikfjdfoaaDoor
