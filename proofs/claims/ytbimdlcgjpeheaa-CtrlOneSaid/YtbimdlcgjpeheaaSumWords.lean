/-
  Words for layer 3: a block that is known whole (Blk), a row of texts in memory (Row), and what keeps them. No statement of the document is here.
-/
import Derived.Test.YtbimdlcgjpeheaaRows
import Derived.WalkKit
import Derived.ProofKit
import Derived.OpenShut
import Derived.Lib.Hide
import Derived.Below
import Derived.Laws.OwnMore
import Derived.Deep.Draws
import Derived.Laws.Rows
import Derived.OwnWalk
import Derived.Laws.AppendOwn
import Derived.Maps.AppendAt
namespace Go.Proofs.Ytbimdlcgjpeheaa
open Go.RowKit
set_option linter.unusedVariables false

theorem ret_bool {a b : Bool} (h : a = b) : Ending.returned (.bool a) = .returned (.bool b) := by rw [h]
theorem ret_int {k : IntKind} {a b : Int} (h : a = b) : Ending.returned (.int k a) = .returned (.int k b) := by rw [h]
theorem ret_str {a b : ByteArray} (h : a = b) : Ending.returned (.string a) = .returned (.string b) := by rw [h]

/-- All that block g holds: the cells cs, whose elements are of type t; every one may be written. -/
def Blk (w : World) (g : Nat) (t : TypeId) (cs : Array Value) : Prop := w.heap[g]? = some (.cells cs t (0, 0))

namespace Blk
variable {w w' : World} {g : Nat} {t : TypeId} {cs : Array Value}
/-- It holds in every world that has the same block there: what follows on worlds goes by this. -/
theorem same (h : Blk w g t cs) (e : w'.heap[g]? = w.heap[g]?) : Blk w' g t cs := e.trans h
theorem lt (h : Blk w g t cs) : g < w.heap.size := (Array.getElem?_eq_some_iff.1 h).1
theorem cell (h : Blk w g t cs) (i : Nat) : w.cell? ⟨g, i, none⟩ = cs[i]? := cell_of_row w g i cs t (0, 0) h
theorem frozen (h : Blk w g t cs) (i : Nat) : w.frozen? ⟨g, i, none⟩ = false := by simp [World.frozen?, show w.heap[g]? = some (.cells cs t (0, 0)) from h]
theorem new (w : World) (t : TypeId) (cs : Array Value) : Blk (w.alloc (.cells cs t)) w.heap.size t cs := heap_alloc_new w (.cells cs t)
theorem drew (h : Blk w g t cs) : Blk w.drew g t cs := h.same rfl
theorem drewN (h : Blk w g t cs) (n : Nat) : Blk (w.drewN n) g t cs := h.same rfl
theorem alloc (h : Blk w g t cs) (o : Obj) : Blk (w.alloc o) g t cs := h.same (Below.heap_alloc w o g h.lt)
theorem below {B : Nat} (h : Blk w g t cs) (hb : Below B w w') (hg : g < B) : Blk w' g t cs := h.same (hb.block g hg)
theorem grown {row : Option Nat} (h : Blk w g t cs) (hb : w.grownBy w' row) (hg : some g ≠ row) : Blk w' g t cs := h.same (hb.block g h.lt hg)
/-- One cell stored anew. -/
theorem set_ (h : Blk w g t cs) (i : Nat) (u : Value) : Blk (w.setCell ⟨g, i, none⟩ u) g t (cs.setIfInBounds i u) := by
  have e : w.heap[g]? = some (.cells cs t (0, 0)) := h
  show (w.setCell ⟨g, i, none⟩ u).heap[g]? = _
  rw [World.setCell, Array.getElem?_modify, e]
  simp
/-- Blocks whose elements are of two types are two blocks. -/
theorem ne_ {g' : Nat} {t' : TypeId} {cs' : Array Value} (h : Blk w g t cs) (h' : Blk w g' t' cs') (hne : t ≠ t') : g ≠ g' := fun e => by
  have hh : some (Obj.cells cs t (0, 0)) = some (Obj.cells cs' t' (0, 0)) := by rw [← show w.heap[g]? = _ from h, e]; exact h'
  simp only [Option.some.injEq, Obj.cells.injEq] at hh
  exact hne hh.2.1
end Blk

/-- A draw has turned nothing. -/
theorem drawn_only (w : World) (n : Nat) (row : Option Nat) : w.grownBy (w.drewN n) row := ⟨rfl, rfl, rfl, Nat.le_refl _, fun _ _ _ => rfl⟩
theorem only_drewN {a w : World} {row : Option Nat} (h : a.grownBy w row) (n : Nat) : a.grownBy (w.drewN n) row := h.trans (drawn_only w n row)
theorem only_drew {a w : World} {row : Option Nat} (h : a.grownBy w row) : a.grownBy w.drew row := h.trans ⟨rfl, rfl, rfl, Nat.le_refl _, fun _ _ _ => rfl⟩
theorem only_alloc {a w : World} {row : Option Nat} (h : a.grownBy w row) (o : Obj) : a.grownBy (w.alloc o) row := h.trans (World.grownBy_alloc w o row)
/-- A store into the one block that may turn. -/
theorem only_setCell {a w : World} {g : Nat} (h : a.grownBy w (some g)) {p : Addr} (hp : p.block = g) (u : Value) : a.grownBy (w.setCell p u) (some g) :=
  h.trans ⟨rfl, rfl, rfl, by simp [World.setCell], fun k _ hk => Below.heap_setCell w p u k fun e => hk (by rw [e, hp])⟩
theorem only_of_below {a w : World} (h : Below a.heap.size a w) (row : Option Nat) : a.grownBy w row := { os := h.os, tape := h.tape, output := h.output, size := h.size, block := fun k hk _ => h.block k hk }
theorem below_drewN {B : Nat} {a w : World} (h : Below B a w) (n : Nat) : Below B a (w.drewN n) := h.trans ⟨rfl, rfl, rfl, Nat.le_refl _, fun _ _ => rfl⟩
/-- What has turned at most block b, and new blocks: below a number that b is not below, nothing has. -/
theorem below_of_only {B : Nat} {a w : World} {b : Nat} (h : a.grownBy w (some b)) (hb : B ≤ b) (hs : B ≤ a.heap.size) : Below B a w :=
  ⟨h.os, h.tape, h.output, h.size, fun i hi => h.block i (by omega) (fun e => by injection e with e; omega)⟩

/-- A slice of texts in memory, below block n: its elements are ss. -/
def RowB (n : Nat) (w : World) (v : Value) (ss : List ByteArray) : Prop :=
  ∃ (p : Option Addr) (cap : Nat), v = .slice p ss.length cap ∧ ∀ (i : Nat) (s : ByteArray), ss[i]? = some s → ∃ g, p = some ⟨g, 0, none⟩ ∧ g < n ∧ w.cell? ⟨g, i, none⟩ = some (.string s)
abbrev Row (w : World) (v : Value) (ss : List ByteArray) : Prop := RowB w.heap.size w v ss
theorem Row.nil (w : World) : Row w (.slice none 0 0) [] := ⟨none, 0, rfl, fun i s h => by simp at h⟩
theorem RowB.kept {n : Nat} {w w' : World} {v : Value} {ss : List ByteArray} (h : RowB n w v ss) (b : ∀ k, k < n → w'.heap[k]? = w.heap[k]?) : RowB n w' v ss := by
  obtain ⟨p, cap, hv, hc⟩ := h
  refine ⟨p, cap, hv, fun i s hs => ?_⟩
  obtain ⟨g, hp, hg, hi⟩ := hc i s hs
  exact ⟨g, hp, hg, (World.cell?_of_block (a := ⟨g, i, none⟩) (b g hg)).trans hi⟩
theorem RowB.mono {n m : Nat} {w : World} {v : Value} {ss : List ByteArray} (h : RowB n w v ss) (b : n ≤ m) : RowB m w v ss := by
  obtain ⟨p, cap, hv, hc⟩ := h
  refine ⟨p, cap, hv, fun i s hs => ?_⟩
  obtain ⟨g, hp, hg, hi⟩ := hc i s hs
  exact ⟨g, hp, Nat.lt_of_lt_of_le hg b, hi⟩
theorem Row.below {w w' : World} {v : Value} {ss : List ByteArray} (h : Row w v ss) (b : Below w.heap.size w w') : Row w' v ss := (RowB.kept h b.block).mono b.size
theorem Row.of_blk {w : World} {g : Nat} {t : TypeId} {ss : List ByteArray} (n : Nat) (hn : n = ss.length) (h : Blk w g t (ss.map Value.string).toArray) (cap : Nat) : Row w (.slice (some ⟨g, 0, none⟩) n cap) ss := by
  subst hn
  refine ⟨_, cap, rfl, fun i s hs => ⟨g, rfl, h.lt, ?_⟩⟩
  rw [h.cell i]; simp [hs]
end Go.Proofs.Ytbimdlcgjpeheaa
