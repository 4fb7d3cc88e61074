/-
  The tables out of the condition of a row of layer 6. No statement of the document is here.
-/
import Derived.Test.YtcbakfnpbhgjoaaDoorShaLoads
import Derived.Test.YtcbakfnpbhgjoaaDoorTie
import Derived.Test.YtcbakfnpbhgjoaaDoorCards
import Derived.SevenTiedAt
import Derived.LaidMore
import Derived.Lib.LaidTab
import Derived.ProofKit
import Derived.OpenShut
import Derived.ShutString
import Derived.ChangeOld
import Derived.Below
import Derived.SizedLaws
import Derived.Stop.Joined
import Derived.Stop.LaidErr
namespace Go.Proofs.YtcbakfnpbhgjoaaDoor
open Go.ChangeShapes Go.WideShapes Go.ChangeAt Go.RowKit
set_option linter.unusedVariables false

theorem own : ownKnob Tryd.prog.godebug = none := by kernel_rfl
theorem laidOut : laidOutB Tryd.prog = true := by kernel_rfl
abbrev laid1 : List (String × DataW Unit) := [("plait/sha.initialWords", Rows.laid_plait_sha_initialWords), ("plait/sha.roundWords", Rows.laid_plait_sha_roundWords)]
theorem door_met (os : Os) (args : Array Value) : laidMetH Tryd.prog laid1 ((World.doorLaid Tryd.prog 400 os).forCall (fun _ _ => 0) ⟨#[], args, []⟩).memory :=
  laidMetH_of_parts3 (fuel := 8) (laidMet_of_run' 8 (by kernel_rfl) (by kernel_rfl)) (by kernel_rfl) (by kernel_rfl)
def iws : List Int := ws0.list.map fun n : Nat => (n : Int)
def rws : List Int := kws.map fun n : Nat => (n : Int)
theorem eight_u : Tryd.prog.underlying 92 = some (.array 8 24) := by kernel_rfl
theorem table_of {W : World} (h : laidMetH Tryd.prog laid1 W) : Tbl W := by
  rw [MakeChecks.laidMetH_plain _ _ _ (by kernel_rfl)] at h
  have hI := Lib.tabIs_of_head (P := Tryd.prog) (W := W) (name := "plait/sha.initialWords") (k := .u32) (zs := iws) (rest := [("plait/sha.roundWords", Rows.laid_plait_sha_roundWords)]) (g := 0) (t := 93) (e := 24) (n := 8) (by kernel_rfl) (by kernel_rfl) (by kernel_rfl) Tryd.underlying24 (by kernel_rfl) (by kernel_rfl) h
  have hR := Lib.tabIs_of_head (P := Tryd.prog) (W := W) (name := "plait/sha.roundWords") (k := .u32) (zs := rws) (rest := []) (g := 1) (t := 118) (e := 24) (n := 64) (by kernel_rfl) (by kernel_rfl) (by kernel_rfl) Tryd.underlying24 (by kernel_rfl) (by kernel_rfl) h.tail
  have gI : Tryd.prog.globalNamed "plait/sha.initialWords" = some 0 := by kernel_rfl
  have gR : Tryd.prog.globalNamed "plait/sha.roundWords" = some 1 := by kernel_rfl
  have cR : ∀ i, i < 64 → W.cell? ⟨1, i, none⟩ = some (.int .u32 ((kws.getD i 0 : Nat) : Int)) := fun i hi => by
    have := hR.cell gR i (by simpa [rws, kws] using hi)
    rw [this]; simp [rws, show i < kws.length by simpa [kws] using hi]
  have cI : ∀ i, i < 8 → W.cell? ⟨0, i, none⟩ = some (.int .u32 ((ws0.list.getD i 0 : Nat) : Int)) := fun i hi => by
    have := hI.cell gI i (by simpa [iws, Ws.list_length] using hi)
    rw [this]; simp [iws, show i < ws0.list.length by rw [Ws.list_length]; exact hi]
  exact ⟨World.block_lt_of_cell? W _ (cR 0 (by decide)), cR, cI⟩

end Go.Proofs.YtcbakfnpbhgjoaaDoor
